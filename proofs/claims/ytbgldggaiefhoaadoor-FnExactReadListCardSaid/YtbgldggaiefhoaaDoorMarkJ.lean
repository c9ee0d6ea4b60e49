/- The laws' marks on lists of integers, and lists of integers that a call made. -/
import Derived.Test.YtbgldggaiefhoaaDoorOnl
import Derived.Test.YtbgldggaiefhoaaDoorJRow
import Derived.Test.YtbgldggaiefhoaaDoorPl
namespace Go.Proofs.YtbgldggaiefhoaaDoor
open Go.RowKit
set_option linter.unusedVariables false

/-- from cell o on, block g holds the numbers zs, and may be written -/
def RowJ (w : World) (g o : Nat) (zs : List Int) : Prop := ∃ c : Array Value, w.heap[g]? = some (.cells c 2 (0, 0)) ∧ ∀ i, i < zs.length → c[o + i]? = some (.int .i64 (zs.getD i 0))
theorem RowJ.cell {w : World} {g o i : Nat} {zs : List Int} (h : RowJ w g o zs) (hi : i < zs.length) : w.cell? ⟨g, o + i, none⟩ = some (.int .i64 (zs.getD i 0)) := by
  obtain ⟨c, hb, hc⟩ := h
  simp [World.cell?, hb, hc i hi]
theorem RowJ.frozen {w : World} {g o : Nat} {zs : List Int} (h : RowJ w g o zs) (i : Nat) : w.frozen? ⟨g, i, none⟩ = false := by
  obtain ⟨c, hb, _⟩ := h
  simp [World.frozen?, hb]
theorem RowJ.lt {w : World} {g o : Nat} {zs : List Int} (h : RowJ w g o zs) : g < w.heap.size := by
  obtain ⟨c, hb, _⟩ := h
  exact (Array.getElem?_eq_some_iff.1 hb).1
theorem RowJ.of_block {w w' : World} {g o : Nat} {zs : List Int} (h : RowJ w g o zs) (e : w'.heap[g]? = w.heap[g]?) : RowJ w' g o zs := by
  obtain ⟨c, hb, hc⟩ := h
  exact ⟨c, e.trans hb, hc⟩
theorem RowJ.set {w : World} {g o : Nat} {zs : List Int} (h : RowJ w g o zs) (j : Nat) (x : Int) (hj : j < zs.length) : RowJ (w.setCell ⟨g, o + j, none⟩ (.int .i64 x)) g o (zs.set j x) := by
  obtain ⟨c, hb, hc⟩ := h
  refine ⟨c.setIfInBounds (o + j) (.int .i64 x), by simp [World.setCell, Array.getElem?_modify, hb], fun i hi => ?_⟩
  have hi' : i < zs.length := by simpa using hi
  rw [Array.getElem?_setIfInBounds]
  by_cases e : i = j
  · subst e
    have hlt : o + i < c.size := (Array.getElem?_eq_some_iff.1 (hc i hi')).1
    simp [hlt, hj, List.getD_eq_getElem?_getD]
  · rw [if_neg (by omega), hc i hi']
    simp [List.getD_eq_getElem?_getD, List.getElem?_set_ne (Ne.symm e)]
theorem RowJ.of_row {w : World} {g o N : Nat} {f : Nat → Int} {zs : List Int} (h : w.rowIs g 2 N (fun i => .int .i64 (f i))) (ho : o + zs.length ≤ N) (hf : ∀ i, i < zs.length → f (o + i) = zs.getD i 0) : RowJ w g o zs := by
  obtain ⟨c, hb, hn, hc⟩ := h
  exact ⟨c, hb, fun i hi => by simpa only [hf i hi] using hc (o + i) (by omega)⟩

theorem markLJ_any (g o n k c : Nat) (zs : List Int) (w : World) (hr : RowJ w g o zs) (hz : zs.length = n) (hn : n ≤ 1048576) (hk : k ≤ 1048576) :
    Calls Tryd.prog 30 #[.slice (some ⟨g, o, none⟩) n c, .int .i64 k] w fun e w' => e = .returned (.int .i64 ((k + n : Nat) : Int)) ∧ (∃ ys : List Int, ys.length = n ∧ (∀ i, i < n → ys.getD i 0 = ((k + i : Nat) : Int)) ∧ RowJ w' g o ys) ∧ Onl g w w' := by
  have HR : Hid (∃ ys : List Int, ys.length = n ∧ (∀ i, i < 0 → ys.getD i 0 = ((k + i : Nat) : Int)) ∧ RowJ w g o ys) := Lib.hid ⟨zs, hz, fun i hi => absurd hi (by omega), hr⟩
  clear hr hz
  go_enter Tryd.func30, Tryd.ntmps30
  go_wp2
  go_loopw [1, 5] (fun q i wr => ∃ j : Nat, j ≤ n ∧ i = .int .i64 j ∧ q = .int .i64 ((k + j : Nat) : Int) ∧ Hid (∃ ys : List Int, ys.length = n ∧ (∀ i, i < j → ys.getD i 0 = ((k + i : Nat) : Int)) ∧ RowJ wr g o ys) ∧ Hid (Onl g w wr)) (fun _ i _ => n - (intOf i).toNat)
  case atStart => exact ⟨0, Nat.zero_le _, rfl, rfl, HR, Lib.hid (Onl.refl g w)⟩
  case round =>
    obtain ⟨j, hj, rfl, rfl, hrow, hon⟩ := hrel
    by_cases hlt : j < n
    · obtain ⟨ys, hy, hm, C⟩ := hrow.out
      have e3 : wr.cell? ⟨g, o + j, none⟩ = some (.int .i64 (ys.getD j 0)) := C.cell (by omega)
      have e4 : wr.frozen? ⟨g, o + j, none⟩ = false := C.frozen _
      have C := Lib.hid C
      have HY := Lib.hid hy
      have HM := Lib.hid hm
      clear hrow hy hm
      generalize ys.getD j 0 = old at *
      have hi : (0 : Int) ≤ (j : Int) := by omega
      have hi' : (j : Int) < (n : Int) := by omega
      go_wp2
      go_roundw
      case rel =>
        refine ⟨j + 1, by omega, by go_num, by go_num, Lib.hid ⟨ys.set j (((k + j : Nat) : Int)), by simpa using HY.out, fun i hi => ?_, ?_⟩, Lib.hid (Onl.setCell hon.out _ _)⟩
        · by_cases e : i = j
          · subst e
            have := HY.out
            simp [List.getD_eq_getElem?_getD, show i < ys.length by omega]
          · have := HM.out i (by omega)
            rw [← this]
            simp [List.getD_eq_getElem?_getD, List.getElem?_set_ne (Ne.symm e)]
        · have := C.out.set j (((k + j : Nat) : Int)) (by have := HY.out; omega)
          simpa using this
      case measure => simp [intOf]; omega
    · have e := Lib.hid (show j = n by omega)
      go_wp2
      go_ret
      have := e.out
      subst this
      exact ⟨rfl, hrow.out, hon.out⟩

theorem heldLJ_any (g o n k c : Nat) (zs : List Int) (w : World) (hr : RowJ w g o zs) (hz : zs.length = n) (hk : k + n ≤ 499) (hf : ∀ i, i < n → zs.getD i 0 = ((k + i : Nat) : Int)) :
    Calls Tryd.prog 31 #[.slice (some ⟨g, o, none⟩) n c, .int .i64 k] w fun e w' => e = .returned (.int .i64 ((k + n : Nat) : Int)) ∧ w = w' := by
  have HC : Hid (∀ i, i < n → w.cell? ⟨g, o + i, none⟩ = some (.int .i64 (((k + i : Nat) : Int)))) := Lib.hid (fun i hi => by rw [hr.cell (by omega), hf i hi])
  clear hr hz hf
  go_enter Tryd.func31, Tryd.ntmps31
  go_wp2
  go_loop [1, 5] (fun q i => ∃ j : Nat, j ≤ n ∧ i = .int .i64 j ∧ q = .int .i64 ((k + j : Nat) : Int)) (fun _ i => n - (intOf i).toNat)
  case atStart => exact ⟨0, Nat.zero_le _, rfl, rfl⟩
  case round =>
    obtain ⟨j, hj, rfl, rfl⟩ := hrel
    by_cases hlt : j < n
    · have z0 := HC.out j hlt
      have hi : (0 : Int) ≤ (j : Int) := by omega
      have hi' : (j : Int) < (n : Int) := by omega
      go_wp2
      go_round
      case rel => exact ⟨j + 1, by omega, by go_num, by go_num⟩
      case measure => simp [intOf]; omega
    · have e := Lib.hid (show j = n by omega)
      go_wp2
      go_ret
      have := e.out
      subst this
      exact ⟨rfl, rfl⟩

theorem markJ_mt (a : Option Addr) (c k : Nat) (w : World) (hk : k ≤ 400) : Calls Tryd.prog 30 #[.slice a 0 c, .int .i64 k] w fun e w' => e = .returned (.int .i64 k) ∧ w = w' := by
  go_enter Tryd.func30, Tryd.ntmps30
  go_wp2
  go_loop [1, 5] (fun q i => i = .int .i64 0 ∧ q = .int .i64 k) (fun _ _ => 0)
  case atStart => exact ⟨rfl, rfl⟩
  case round =>
    obtain ⟨rfl, rfl⟩ := hrel
    go_wp2
    go_ret
    exact ⟨rfl, rfl⟩
theorem heldJ_mt (a : Option Addr) (c k : Nat) (w : World) (hk : k ≤ 400) : Calls Tryd.prog 31 #[.slice a 0 c, .int .i64 k] w fun e w' => e = .returned (.int .i64 k) ∧ w = w' := by
  go_enter Tryd.func31, Tryd.ntmps31
  go_wp2
  go_loop [1, 5] (fun q i => i = .int .i64 0 ∧ q = .int .i64 k) (fun _ _ => 0)
  case atStart => exact ⟨rfl, rfl⟩
  case round =>
    obtain ⟨rfl, rfl⟩ := hrel
    go_wp2
    go_ret
    exact ⟨rfl, rfl⟩

/-- the value v is a slice that reads as zs and lies in a block made since h: empty, or a part of such a block -/
def OJRow (h : Nat) (w : World) (v : Value) (zs : List Int) : Prop :=
  ((∃ a c, v = .slice a 0 c) ∧ zs = []) ∨ ∃ g o c, v = .slice (some ⟨g, o, none⟩) zs.length c ∧ h ≤ g ∧ RowJ w g o zs

theorem OJRow.frow {h : Nat} {w : World} {v : Value} {zs : List Int} (H : OJRow h w v zs) (hm : zs.length ≤ maxLen) : JRow w v zs := by
  rcases H with H | ⟨g, o, c, rfl, _, hr⟩
  · exact .inl H
  · exact .inr ⟨g, o, c, rfl, hm, fun i hi => hr.cell hi⟩
theorem OJRow.shape {h : Nat} {w : World} {v : Value} {zs : List Int} (H : OJRow h w v zs) : ∃ a cap, v = .slice a zs.length cap := by
  rcases H with ⟨⟨a, c, rfl⟩, rfl⟩ | ⟨g, o, c, rfl, _⟩
  · exact ⟨_, _, rfl⟩
  · exact ⟨_, _, rfl⟩
theorem OJRow.kept {h : Nat} {w w' : World} {v : Value} {zs : List Int} (H : OJRow h w v zs) (hb : Below w.heap.size w w') : OJRow h w' v zs := by
  rcases H with H | ⟨g, o, c, rfl, hg, hr⟩
  · exact .inl H
  · exact .inr ⟨g, o, c, rfl, hg, hr.of_block (hb.block g hr.lt)⟩
theorem OJRow.far {h p : Nat} {w w' : World} {v : Value} {zs : List Int} (H : OJRow h w v zs) (hb : Onl p w w') (hp : p < h) : OJRow h w' v zs := by
  rcases H with H | ⟨g, o, c, rfl, hg, hr⟩
  · exact .inl H
  · exact .inr ⟨g, o, c, rfl, hg, hr.of_block (hb.block g (by omega))⟩
theorem OJRow.mono {h h' : Nat} {w : World} {v : Value} {zs : List Int} (H : OJRow h w v zs) (hh : h' ≤ h) : OJRow h' w v zs := by
  rcases H with H | ⟨g, o, c, rfl, hg, hr⟩
  · exact .inl H
  · exact .inr ⟨g, o, c, rfl, Nat.le_trans hh hg, hr⟩
theorem OJRow.nil {h : Nat} {w : World} : OJRow h w (.slice none 0 0) [] := .inl ⟨⟨_, _, rfl⟩, rfl⟩
theorem OwnJ.orow {w : World} {base : Nat} {v : Value} {zs : List Int} (h : OwnJ w base v zs) : OJRow base w v zs := by
  obtain ⟨h1, h2⟩ := h
  rcases h2 with ⟨rfl, hn⟩ | ⟨g, cap, cur, e, hg, hc, _, _, hs, h3⟩
  · have : zs = [] := List.length_eq_zero_iff.1 hn
    subst this
    exact .nil
  · refine .inr ⟨g, 0, cap, e, hg, cur, hc, fun i hi => ?_⟩
    have : (flj zs)[i]? = some (.int .i64 (zs.getD i 0)) := by simp [flj, hi, List.getD_eq_getElem?_getD]
    rw [← h3, List.getElem?_take, if_pos (by omega)] at this
    rw [Nat.zero_add]
    simpa using this

/-- the marks 1, 2 and so on -/
def mksJ (n : Nat) : List Int := (List.range n).map fun i => ((1 + i : Nat) : Int)
theorem mksJ_length (n : Nat) : (mksJ n).length = n := by simp [mksJ]
theorem mksJ_getD (n i : Nat) (hi : i < n) : (mksJ n).getD i 0 = ((1 + i : Nat) : Int) := by simp [mksJ, hi, List.getD_eq_getElem?_getD]
theorem mksJ_of {n : Nat} {ys : List Int} (hl : ys.length = n) (h : ∀ i, i < n → ys.getD i 0 = ((1 + i : Nat) : Int)) : ys = mksJ n := by
  refine List.ext_getElem (by rw [hl, mksJ_length]) fun i h1 h2 => ?_
  have := h i (by omega)
  simp only [mksJ, List.getElem_map, List.getElem_range]
  rw [← this]
  simp [List.getD_eq_getElem?_getD, h1]

theorem markJO {h : Nat} {v : Value} {zs : List Int} {w : World} (H : OJRow h w v zs) (hl : zs.length ≤ 400) :
    Calls Tryd.prog 30 #[v, .int .i64 1] w fun e w' => e = .returned (.int .i64 ((1 + zs.length : Nat) : Int)) ∧ OJRow h w' v (mksJ zs.length) ∧ (h ≤ w.heap.size → Below h w w') := by
  rcases H with ⟨⟨a, c, rfl⟩, rfl⟩ | ⟨g, o, c, rfl, hg, hr⟩
  · refine (markJ_mt a c 1 w (by omega)).mono ?_
    rintro e w' ⟨rfl, rfl⟩
    exact ⟨rfl, .inl ⟨⟨_, _, rfl⟩, rfl⟩, fun _ => Below.refl _ _⟩
  · refine (markLJ_any g o zs.length 1 c zs w hr rfl (by omega) (by omega)).mono ?_
    rintro e w' ⟨rfl, ⟨ys, hy, hf, hr'⟩, hon⟩
    rw [mksJ_of hy hf] at hr'
    exact ⟨rfl, .inr ⟨g, o, c, by rw [mksJ_length], hg, hr'⟩, fun _ => hon.below hg⟩

theorem heldJO {h n : Nat} {v : Value} {w : World} (H : OJRow h w v (mksJ n)) (hl : n ≤ 400) :
    Calls Tryd.prog 31 #[v, .int .i64 1] w fun e w' => e = .returned (.int .i64 ((1 + n : Nat) : Int)) ∧ w = w' := by
  rcases H with ⟨⟨a, c, rfl⟩, hz⟩ | ⟨g, o, c, rfl, hg, hr⟩
  · have : n = 0 := by have := congrArg List.length hz; rw [mksJ_length] at this; simpa using this
    subst this
    exact heldJ_mt a c 1 w (by omega)
  · rw [mksJ_length]
    exact heldLJ_any g o n 1 c (mksJ n) w hr (mksJ_length n) (by omega) (fun i hi => mksJ_getD _ _ hi)


/-- two slices of integers that are the same -/
theorem eqJ_any (v v' : Value) (zs : List Int) (w : World) (h : JRow w v zs) (h' : JRow w v' zs) : Calls Tryd.prog 29 #[v, v'] w (Yes w) := by
  have HC := Lib.hid (fun (hn : 1 ≤ zs.length) => h.cells hn)
  have HC' := Lib.hid (fun (hn : 1 ≤ zs.length) => h'.cells hn)
  have HL := Lib.hid h.len
  obtain ⟨a, cap, rfl⟩ := h.shape
  obtain ⟨a', cap', rfl⟩ := h'.shape
  clear h h'
  generalize zs.length = n at *
  go_enter Tryd.func29, Tryd.ntmps29
  go_wp2
  go_loopw [5] (fun i wr => ∃ k q : Nat, k ≤ n ∧ i = .int .i64 k ∧ wr = w.drewN q) (fun i _ => n - (intOf i).toNat)
  case atStart => exact ⟨0, 0, Nat.zero_le _, rfl, rfl⟩
  case round =>
    obtain ⟨k, q, hk, rfl, rfl⟩ := hrel
    have hG := HL.out
    by_cases hlt : k < n
    · obtain ⟨b0, o0, c0, e, hc⟩ := HC.out (by omega)
      obtain ⟨b1, o1, c1, e', hc'⟩ := HC'.out (by omega)
      have ea : a = some ⟨b0, o0, none⟩ := by cases e; rfl
      have ea' : a' = some ⟨b1, o1, none⟩ := by cases e'; rfl
      have z0 := hc k hlt
      have z1 := hc' k hlt
      clear e hc e' hc' HC HC'
      subst ea
      subst ea'
      generalize zs.getD k 0 = y at *
      have hi : (0 : Int) ≤ (k : Int) := by omega
      have hi' : (k : Int) < (n : Int) := by omega
      go_wp2
      refine wp_region_loose (fun _ _ _ => True) (by kernel_rfl) (by kernel_rfl) ?_
      repeat (first | (refine wpLoose_farith rfl _ _ _ _ _ rfl rfl _ _ _ rfl rfl ?_; intro _ _) | (refine wpLoose_valK rfl ?_ (fun w1 hw1 => ?_) (fun K hK => ?_); rotate_left; (focus (obtain ⟨nq, rfl⟩ := hw1; go_simp; first | done | rfl)); go_simp; refine hK _ ?_; clear hK K))
      (refine wpLoose_nil ?_; rintro _ ⟨nq, rfl⟩)
      go_wp2
      go_roundw
      case rel => exact ⟨k + 1, _, by omega, by go_num, rfl⟩
      case measure => simp [intOf]; omega
    · go_wp2
      go_ret
      exact Yes.drewN
/-- marks over a copy of an argument: only its block turns -/
theorem markXk (p k : Nat) (zs : List Nat) (w : World) (H : Cells w p (fl zs)) (hl : zs.length ≤ 1048576) (hk : k ≤ 4194304) :
    Calls Tryd.prog 23 #[sl p zs, .int .i64 (k : Int)] w fun e w' => e = .returned (.int .i64 ((k + zs.length : Nat) : Int)) ∧ Onl p w w' := by
  have HC : Hid (∃ ys : List Nat, ys.length = zs.length ∧ Cells w p (fl ys)) := Lib.hid ⟨zs, rfl, H⟩
  clear H
  unfold sl
  generalize zs.length = n at *
  go_enter Tryd.func23, Tryd.ntmps23
  go_wp2
  go_loopw [1, 5] (fun q i wr => ∃ j : Nat, j ≤ n ∧ i = .int .i64 j ∧ q = .int .i64 ((k + j : Nat) : Int) ∧ Hid (∃ ys : List Nat, ys.length = n ∧ Cells wr p (fl ys)) ∧ Hid (Onl p w wr)) (fun _ i _ => n - (intOf i).toNat)
  case atStart => exact ⟨0, Nat.zero_le _, rfl, rfl, HC, Lib.hid (Onl.refl p w)⟩
  case round =>
    obtain ⟨j, hj, rfl, rfl, hrow, hon⟩ := hrel
    by_cases hlt : j < n
    · obtain ⟨ys, hy, C⟩ := hrow.out
      have hjy : j < ys.length := by omega
      have e3 : wr.cell? ⟨p, j, none⟩ = some (.float .f32 (ys.getD j 0)) := C.at j (by simp [fl, hjy, List.getD_eq_getElem?_getD])
      have e4 : wr.frozen? ⟨p, j, none⟩ = false := C.fz j
      have C := Lib.hid C
      have HY := Lib.hid hy
      clear hrow hy
      generalize ys.getD j 0 = old at *
      have hi : (0 : Int) ≤ (j : Int) := by omega
      have hi' : (j : Int) < (n : Int) := by omega
      go_wp2
      go_roundw
      case rel =>
        refine ⟨j + 1, by omega, by go_num, by go_num, Lib.hid ⟨ys.set j (floatOfInt .f32 ((k + j : Nat) : Int)), by simpa using HY.out, ?_⟩, Lib.hid (Onl.setCell hon.out _ _)⟩
        have := C.out.set j (by simpa [fl] using hjy) (.float .f32 (floatOfInt .f32 ((k + j : Nat) : Int)))
        rw [show fl (ys.set j (floatOfInt .f32 ((k + j : Nat) : Int))) = (fl ys).set j (.float .f32 (floatOfInt .f32 ((k + j : Nat) : Int))) from by simp [fl, List.map_set]]
        simpa using this
      case measure => simp [intOf]; omega
    · have e := Lib.hid (show j = n by omega)
      go_wp2
      go_ret
      have := e.out
      subst this
      exact ⟨rfl, hon.out⟩
end Go.Proofs.YtbgldggaiefhoaaDoor
