/- The laws' marks on lists of texts, and lists of texts that a call made. -/
import Derived.Test.YtncjkhdnpioinaaDoorMkT
import Derived.Test.YtncjkhdnpioinaaDoorAppZ
import Derived.Test.YtncjkhdnpioinaaDoorFacts2
namespace Go.Proofs.YtncjkhdnpioinaaDoor
open Go.RowKit
set_option linter.unusedVariables false

/-- from cell o on, block g holds the texts zs, and may be written -/
def RowZ (w : World) (g o : Nat) (zs : List ByteArray) : Prop := ∃ c : Array Value, w.heap[g]? = some (.cells c 9 (0, 0)) ∧ ∀ i, i < zs.length → c[o + i]? = some (.string (zs.getD i ⟨#[]⟩))
theorem RowZ.cell {w : World} {g o i : Nat} {zs : List ByteArray} (h : RowZ w g o zs) (hi : i < zs.length) : w.cell? ⟨g, o + i, none⟩ = some (.string (zs.getD i ⟨#[]⟩)) := by
  obtain ⟨c, hb, hc⟩ := h
  simp [World.cell?, hb, hc i hi]
theorem RowZ.frozen {w : World} {g o : Nat} {zs : List ByteArray} (h : RowZ w g o zs) (i : Nat) : w.frozen? ⟨g, i, none⟩ = false := by
  obtain ⟨c, hb, _⟩ := h
  simp [World.frozen?, hb]
theorem RowZ.lt {w : World} {g o : Nat} {zs : List ByteArray} (h : RowZ w g o zs) : g < w.heap.size := by
  obtain ⟨c, hb, _⟩ := h
  exact (Array.getElem?_eq_some_iff.1 hb).1
theorem RowZ.of_block {w w' : World} {g o : Nat} {zs : List ByteArray} (h : RowZ w g o zs) (e : w'.heap[g]? = w.heap[g]?) : RowZ w' g o zs := by
  obtain ⟨c, hb, hc⟩ := h
  exact ⟨c, e.trans hb, hc⟩
theorem RowZ.set {w : World} {g o : Nat} {zs : List ByteArray} (h : RowZ w g o zs) (j : Nat) (x : ByteArray) (hj : j < zs.length) : RowZ (w.setCell ⟨g, o + j, none⟩ (.string x)) g o (zs.set j x) := by
  obtain ⟨c, hb, hc⟩ := h
  refine ⟨c.setIfInBounds (o + j) (.string x), by simp [World.setCell, Array.getElem?_modify, hb], fun i hi => ?_⟩
  have hi' : i < zs.length := by simpa using hi
  rw [Array.getElem?_setIfInBounds]
  by_cases e : i = j
  · subst e
    have hlt : o + i < c.size := (Array.getElem?_eq_some_iff.1 (hc i hi')).1
    simp [hlt, hj, List.getD_eq_getElem?_getD]
  · rw [if_neg (by omega), hc i hi']
    simp [List.getD_eq_getElem?_getD, List.getElem?_set_ne (Ne.symm e)]
theorem RowZ.of_row {w : World} {g o N : Nat} {f : Nat → ByteArray} {zs : List ByteArray} (h : w.rowIs g 9 N (fun i => .string (f i))) (ho : o + zs.length ≤ N) (hf : ∀ i, i < zs.length → f (o + i) = zs.getD i ⟨#[]⟩) : RowZ w g o zs := by
  obtain ⟨c, hb, hn, hc⟩ := h
  exact ⟨c, hb, fun i hi => by simpa only [hf i hi] using hc (o + i) (by omega)⟩

theorem markLZ_any (g o n k c : Nat) (zs : List ByteArray) (w : World) (hr : RowZ w g o zs) (hz : zs.length = n) (hk1 : 1 ≤ k) (hk : k + n ≤ 1000000) :
    Calls Tryd.prog 47 #[.slice (some ⟨g, o, none⟩) n c, .int .i64 k] w fun e w' => e = .returned (.int .i64 ((k + n : Nat) : Int)) ∧ (∃ ys : List ByteArray, ys.length = n ∧ (∀ i, i < n → ys.getD i ⟨#[]⟩ = mtx (k + i)) ∧ RowZ w' g o ys) ∧ (∀ h, h ≤ g → h ≤ w.heap.size → Below h w w') := by
  have HR : Hid (∃ ys : List ByteArray, ys.length = n ∧ (∀ i, i < 0 → ys.getD i ⟨#[]⟩ = mtx (k + i)) ∧ RowZ w g o ys) := Lib.hid ⟨zs, hz, fun i hi => absurd hi (by omega), hr⟩
  have HM := Lib.hid (fun q w1 h1 h2 => markText_any q w1 h1 h2)
  have HK := Lib.hid hk1
  clear hr hz hk1
  go_enter Tryd.func47, Tryd.ntmps47
  go_wp2
  go_loopw [1, 5] (fun q i wr => ∃ j : Nat, j ≤ n ∧ i = .int .i64 j ∧ q = .int .i64 ((k + j : Nat) : Int) ∧ Hid (∃ ys : List ByteArray, ys.length = n ∧ (∀ i, i < j → ys.getD i ⟨#[]⟩ = mtx (k + i)) ∧ RowZ wr g o ys) ∧ Hid (∀ h, h ≤ g → h ≤ w.heap.size → Below h w wr)) (fun _ i _ => n - (intOf i).toNat)
  case atStart => exact ⟨0, Nat.zero_le _, rfl, rfl, HR, Lib.hid (fun h _ _ => Below.refl _ _)⟩
  case round =>
    obtain ⟨j, hj, rfl, rfl, hrow, hon⟩ := hrel
    by_cases hlt : j < n
    · have HMj := Lib.hid (HM.out (k + j) wr (by have := HK.out; omega) (by omega))
      obtain ⟨t, ht⟩ : ∃ t, mtx (k + j) = t := ⟨_, rfl⟩
      rw [ht] at HMj
      have HTT := Lib.hid ht
      clear ht
      have hi : (0 : Int) ≤ (j : Int) := by omega
      have hi' : (j : Int) < (n : Int) := by omega
      go_wp2_with fail
      refine HMj.out.mono ?_
      rintro e w1 ⟨rfl, hb1⟩
      obtain ⟨ys, hy, hm, C⟩ := hrow.out
      have C := C.of_block (hb1.block g C.lt)
      have e3 : w1.cell? ⟨g, o + j, none⟩ = some (.string (ys.getD j ⟨#[]⟩)) := C.cell (by omega)
      have e4 : w1.frozen? ⟨g, o + j, none⟩ = false := C.frozen _
      have C := Lib.hid C
      have HY := Lib.hid hy
      have HM2 := Lib.hid hm
      have HB : Hid (∀ h, h ≤ g → h ≤ w.heap.size → Below h w (w1.setCell ⟨g, o + j, none⟩ (.string t))) := Lib.hid (fun h h1 h2 => ((hon.out h h1 h2).trans (hb1.mono (Nat.le_trans h2 (hon.out h h1 h2).size))).setCell h1 _)
      clear hrow hy hm hon hb1
      generalize ys.getD j ⟨#[]⟩ = old at *
      go_wp2
      go_roundw
      case rel =>
        refine ⟨j + 1, by omega, by go_num, by go_num, Lib.hid ⟨ys.set j t, by simpa using HY.out, fun i hi => ?_, ?_⟩, HB⟩
        · by_cases e : i = j
          · subst e
            have := HY.out
            rw [HTT.out]
            simp [List.getD_eq_getElem?_getD, show i < ys.length by omega]
          · have := HM2.out i (by omega)
            rw [← this]
            simp [List.getD_eq_getElem?_getD, List.getElem?_set_ne (Ne.symm e)]
        · exact C.out.set j t (by have := HY.out; omega)
      case measure => simp [intOf]; omega
    · have e := Lib.hid (show j = n by omega)
      go_wp2
      go_ret
      have := e.out
      subst this
      exact ⟨rfl, hrow.out, hon.out⟩

theorem heldLZ_any (g o n k c : Nat) (zs : List ByteArray) (w : World) (hr : RowZ w g o zs) (hz : zs.length = n) (hk1 : 1 ≤ k) (hk : k + n ≤ 1000000) (hf : ∀ i, i < n → zs.getD i ⟨#[]⟩ = mtx (k + i)) :
    Calls Tryd.prog 48 #[.slice (some ⟨g, o, none⟩) n c, .int .i64 k] w fun e w' => e = .returned (.int .i64 ((k + n : Nat) : Int)) ∧ Below w.heap.size w w' := by
  have HC : Hid (∀ i, i < n → w.cell? ⟨g, o + i, none⟩ = some (.string (mtx (k + i)))) := Lib.hid (fun i hi => by rw [hr.cell (by omega), hf i hi])
  have HM := Lib.hid (fun q w1 h1 h2 => markText_any q w1 h1 h2)
  have HK := Lib.hid hk1
  clear hr hz hf hk1
  go_enter Tryd.func48, Tryd.ntmps48
  go_wp2
  go_loopw [1, 5] (fun q i wr => ∃ j : Nat, j ≤ n ∧ i = .int .i64 j ∧ q = .int .i64 ((k + j : Nat) : Int) ∧ Hid (Below w.heap.size w wr)) (fun _ i _ => n - (intOf i).toNat)
  case atStart => exact ⟨0, Nat.zero_le _, rfl, rfl, Lib.hid (Below.refl _ _)⟩
  case round =>
    obtain ⟨j, hj, rfl, rfl, hb⟩ := hrel
    by_cases hlt : j < n
    · have HMj := Lib.hid (fun w1 => HM.out (k + j) w1 (by have := HK.out; omega) (by omega))
      have z0 := HC.out j hlt
      have FACT := Lib.hid (fun w1 (hw : Ext wr w1) => hw.cell ((hb.out.cell (p := ⟨g, o + j, none⟩) (cell_lt z0)).trans z0))
      obtain ⟨t, ht⟩ : ∃ t, mtx (k + j) = t := ⟨_, rfl⟩
      rw [ht] at HMj FACT
      have hi : (0 : Int) ≤ (j : Int) := by omega
      have hi' : (j : Int) < (n : Int) := by omega
      clear ht z0
      have q1 : (t.toList == t.toList) = true := by simp
      go_wp2
      refine wp_region_facts (Ext wr) (TS [(17, fIs (.string t))]) (Pers.ext _) (TS.pers _) (Ext.start _) (by kernel_rfl) (by kernel_rfl) (by intro d v c a w h; cases d <;> exact h) ?_
      repeat (refine wpF_val rfl monoQ_end (by rintro _ ⟨⟩; rfl) ?_ (fun w1 hw1 => ?_) (fun K hK => ?_); rotate_left; (focus (have hF := FACT.out w1 hw1; go_simp; first | done | rfl)); go_simp; refine hK _ ?_; clear hK K)
      refine wpF_callF rfl 17 rfl 58 #[.int .i64 ((k + j : Nat) : Int)] (fIs (.string t)) rfl (fun w1 => ?_) (fun w1 hC hN => ?_) (fun v1 hv1 => ?_)
      · go_simp
      · refine (HMj.out w1).mono ?_
        rintro _ w2 ⟨rfl, hb⟩
        exact ⟨_, rfl, hb, rfl⟩
      obtain ⟨_, rfl⟩ := hv1
      repeat (refine wpF_val rfl monoQ_end (by rintro _ ⟨⟩; rfl) ?_ (fun w1 hw1 => ?_) (fun K hK => ?_); rotate_left; (focus (have hF := FACT.out w1 hw1; go_simp; first | done | rfl)); go_simp; refine hK _ ?_; clear hK K)
      refine wpFacts_nil ?_
      intro w3 hb3 _
      have B3 := Lib.hid (below_step hb.out hb3)
      clear hb3
      go_wp2
      go_roundw
      case rel => exact ⟨j + 1, by omega, by go_num, by go_num, B3⟩
      case measure => simp [intOf]; omega
    · have e := Lib.hid (show j = n by omega)
      go_wp2
      go_ret
      have := e.out
      subst this
      exact ⟨rfl, hb.out⟩

theorem markZ_mt (a : Option Addr) (c k : Nat) (w : World) (hk : k ≤ 400) : Calls Tryd.prog 47 #[.slice a 0 c, .int .i64 k] w fun e w' => e = .returned (.int .i64 k) ∧ w = w' := by
  go_enter Tryd.func47, Tryd.ntmps47
  go_wp2
  go_loop [1, 5] (fun q i => i = .int .i64 0 ∧ q = .int .i64 k) (fun _ _ => 0)
  case atStart => exact ⟨rfl, rfl⟩
  case round =>
    obtain ⟨rfl, rfl⟩ := hrel
    go_wp2
    go_ret
    exact ⟨rfl, rfl⟩
theorem heldZ_mt (a : Option Addr) (c k : Nat) (w : World) (hk : k ≤ 400) : Calls Tryd.prog 48 #[.slice a 0 c, .int .i64 k] w fun e w' => e = .returned (.int .i64 k) ∧ w = w' := by
  go_enter Tryd.func48, Tryd.ntmps48
  go_wp2
  go_loop [1, 5] (fun q i => i = .int .i64 0 ∧ q = .int .i64 k) (fun _ _ => 0)
  case atStart => exact ⟨rfl, rfl⟩
  case round =>
    obtain ⟨rfl, rfl⟩ := hrel
    go_wp2
    go_ret
    exact ⟨rfl, rfl⟩

/-- the value v is a slice that reads as zs and lies in a block made since h: empty, or a part of such a block -/
def OZRow (h : Nat) (w : World) (v : Value) (zs : List ByteArray) : Prop :=
  ((∃ a c, v = .slice a 0 c) ∧ zs = []) ∨ ∃ g o c, v = .slice (some ⟨g, o, none⟩) zs.length c ∧ h ≤ g ∧ RowZ w g o zs

theorem OZRow.frow {h : Nat} {w : World} {v : Value} {zs : List ByteArray} (H : OZRow h w v zs) (hm : zs.length ≤ maxLen) : ZRow w v zs := by
  rcases H with H | ⟨g, o, c, rfl, _, hr⟩
  · exact .inl H
  · exact .inr ⟨g, o, c, rfl, hm, fun i hi => hr.cell hi⟩
theorem OZRow.shape {h : Nat} {w : World} {v : Value} {zs : List ByteArray} (H : OZRow h w v zs) : ∃ a cap, v = .slice a zs.length cap := by
  rcases H with ⟨⟨a, c, rfl⟩, rfl⟩ | ⟨g, o, c, rfl, _⟩
  · exact ⟨_, _, rfl⟩
  · exact ⟨_, _, rfl⟩
theorem OZRow.kept {h : Nat} {w w' : World} {v : Value} {zs : List ByteArray} (H : OZRow h w v zs) (hb : Below w.heap.size w w') : OZRow h w' v zs := by
  rcases H with H | ⟨g, o, c, rfl, hg, hr⟩
  · exact .inl H
  · exact .inr ⟨g, o, c, rfl, hg, hr.of_block (hb.block g hr.lt)⟩
theorem OZRow.mono {h h' : Nat} {w : World} {v : Value} {zs : List ByteArray} (H : OZRow h w v zs) (hh : h' ≤ h) : OZRow h' w v zs := by
  rcases H with H | ⟨g, o, c, rfl, hg, hr⟩
  · exact .inl H
  · exact .inr ⟨g, o, c, rfl, Nat.le_trans hh hg, hr⟩
theorem OZRow.nil {h : Nat} {w : World} : OZRow h w (.slice none 0 0) [] := .inl ⟨⟨_, _, rfl⟩, rfl⟩
theorem OwnZ.orow {w : World} {base : Nat} {v : Value} {zs : List ByteArray} (h : OwnZ w base v zs) : OZRow base w v zs := by
  obtain ⟨h1, h2⟩ := h
  rcases h2 with ⟨rfl, hn⟩ | ⟨g, cap, cur, e, hg, hc, _, _, hs, h3⟩
  · have : zs = [] := List.length_eq_zero_iff.1 hn
    subst this
    exact .nil
  · refine .inr ⟨g, 0, cap, e, hg, cur, hc, fun i hi => ?_⟩
    have : (flz zs)[i]? = some (.string (zs.getD i ⟨#[]⟩)) := by simp [flz, hi, List.getD_eq_getElem?_getD]
    rw [← h3, List.getElem?_take, if_pos (by omega)] at this
    rw [Nat.zero_add]
    simpa using this

/-- the marks 1, 2 and so on -/
def mksZ (n : Nat) : List ByteArray := (List.range n).map fun i => mtx (1 + i)
theorem mksZ_length (n : Nat) : (mksZ n).length = n := by simp [mksZ]
theorem mksZ_getD (n i : Nat) (hi : i < n) : (mksZ n).getD i ⟨#[]⟩ = mtx (1 + i) := by simp [mksZ, hi, List.getD_eq_getElem?_getD]
theorem mksZ_of {n : Nat} {ys : List ByteArray} (hl : ys.length = n) (h : ∀ i, i < n → ys.getD i ⟨#[]⟩ = mtx (1 + i)) : ys = mksZ n := by
  refine List.ext_getElem (by rw [hl, mksZ_length]) fun i h1 h2 => ?_
  have := h i (by omega)
  simp only [mksZ, List.getElem_map, List.getElem_range]
  rw [← this]
  simp [List.getD_eq_getElem?_getD, h1]

theorem markZO {h : Nat} {v : Value} {zs : List ByteArray} {w : World} (H : OZRow h w v zs) (hl : zs.length ≤ 500000) :
    Calls Tryd.prog 47 #[v, .int .i64 1] w fun e w' => e = .returned (.int .i64 ((1 + zs.length : Nat) : Int)) ∧ OZRow h w' v (mksZ zs.length) ∧ (h ≤ w.heap.size → Below h w w') := by
  rcases H with ⟨⟨a, c, rfl⟩, rfl⟩ | ⟨g, o, c, rfl, hg, hr⟩
  · refine (markZ_mt a c 1 w (by omega)).mono ?_
    rintro e w' ⟨rfl, rfl⟩
    exact ⟨rfl, .inl ⟨⟨_, _, rfl⟩, rfl⟩, fun _ => Below.refl _ _⟩
  · refine (markLZ_any g o zs.length 1 c zs w hr rfl (Nat.le_refl _) (by omega)).mono ?_
    rintro e w' ⟨rfl, ⟨ys, hy, hf, hr'⟩, hon⟩
    rw [mksZ_of hy hf] at hr'
    exact ⟨rfl, .inr ⟨g, o, c, by rw [mksZ_length], hg, hr'⟩, fun hh => hon h hg hh⟩

theorem heldZO {h n : Nat} {v : Value} {w : World} (H : OZRow h w v (mksZ n)) (hl : n ≤ 500000) :
    Calls Tryd.prog 48 #[v, .int .i64 1] w fun e w' => e = .returned (.int .i64 ((1 + n : Nat) : Int)) ∧ Below w.heap.size w w' := by
  rcases H with ⟨⟨a, c, rfl⟩, hz⟩ | ⟨g, o, c, rfl, hg, hr⟩
  · have : n = 0 := by have := congrArg List.length hz; rw [mksZ_length] at this; simpa using this
    subst this
    refine (heldZ_mt a c 1 w (by omega)).mono ?_
    rintro e w' ⟨rfl, rfl⟩
    exact ⟨rfl, Below.refl _ _⟩
  · rw [mksZ_length]
    exact heldLZ_any g o n 1 c (mksZ n) w hr (mksZ_length n) (Nat.le_refl _) (by omega) (fun i hi => mksZ_getD _ _ hi)
end Go.Proofs.YtncjkhdnpioinaaDoor
