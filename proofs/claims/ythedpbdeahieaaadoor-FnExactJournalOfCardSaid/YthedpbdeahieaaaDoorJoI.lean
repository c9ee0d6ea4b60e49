/- Journals: what they are, and the program's side. -/
import Derived.Test.YthedpbdeahieaaaDoorEnt
import Derived.Test.YthedpbdeahieaaaDoorWs
import Derived.Test.YthedpbdeahieaaaDoorAppZ
import Derived.Lib.IndexLaws
namespace Go.Proofs.YthedpbdeahieaaaDoor
open Go.RowKit
set_option linter.unusedVariables false

abbrev zAt (zs : List ByteArray) (k : Nat) : ByteArray := zs.getD k ⟨#[]⟩
/-- the check number behind the first lines, and their journal -/
def cks (zs : List ByteArray) : Nat → Int
  | 0 => 0
  | k + 1 => chkTo (zAt zs k) (cks zs k) (zAt zs k).size
def jrn (zs : List ByteArray) : Nat → ByteArray
  | 0 => ⟨#[]⟩
  | k + 1 => jrn zs k ++ entZ (cks zs (k + 1)) (zAt zs k)
theorem cks_bd (zs : List ByteArray) : ∀ k, 0 ≤ cks zs k ∧ cks zs k < 65003
  | 0 => ⟨Int.le_refl _, by show (0 : Int) < 65003; omega⟩
  | k + 1 => chkTo_bd _ _ (cks_bd zs k).1 (cks_bd zs k).2 _
theorem jrn_le (zs : List ByteArray) : ∀ {a b : Nat}, a ≤ b → (jrn zs a).size ≤ (jrn zs b).size
  | a, 0, h => by rw [Nat.le_zero.1 h]; exact Nat.le_refl _
  | a, b + 1, h => by
    by_cases e : a = b + 1
    · subst e; exact Nat.le_refl _
    · have h1 := jrn_le zs (a := a) (b := b) (by omega)
      show _ ≤ (jrn zs b ++ _).size
      rw [ByteArray.size_append]; omega
/-- whether a line holds a newline -/
def nlIn (z : ByteArray) : Bool := decide (0 ≤ Lib.indexByte z.data.toList 10)
/-- whether lines have a journal -/
def joOk (zs : List ByteArray) : Bool := decide ((jrn zs zs.length).size ≤ 16000) && zs.all fun z => !nlIn z
def JoB (zs : List ByteArray) (w : World) (e : Ending) (w' : World) : Prop := e = .returned (.tuple #[.string (if joOk zs then jrn zs zs.length else ⟨#[]⟩), .bool (joOk zs)]) ∧ Below w.heap.size w w'
theorem JoB_no {zs : List ByteArray} {w : World} (h : joOk zs = false) : JoB zs w = fun e w' => e = .returned (.tuple #[.string ⟨#[]⟩, .bool false]) ∧ Below w.heap.size w w' := by
  unfold JoB; rw [h]; rfl
theorem JoB_yes {zs : List ByteArray} {w : World} (h : joOk zs = true) : JoB zs w = fun e w' => e = .returned (.tuple #[.string (jrn zs zs.length), .bool true]) ∧ Below w.heap.size w w' := by
  unfold JoB; rw [h]; rfl
theorem jo_long {zs : List ByteArray} {k : Nat} (hk : k ≤ zs.length) (h : 16000 < (jrn zs k).size) : joOk zs = false := by
  have := jrn_le zs hk
  unfold joOk
  rw [decide_eq_false (by omega)]; rfl
theorem jo_nl {zs : List ByteArray} {k : Nat} (hk : k < zs.length) (h : nlIn (zAt zs k) = true) : joOk zs = false := by
  unfold joOk
  have : (zs.all fun z => !nlIn z) = false := by
    rw [List.all_eq_false]
    refine ⟨_, List.getElem_mem hk, ?_⟩
    unfold zAt at h
    rw [List.getD_eq_getElem?_getD, List.getElem?_eq_getElem hk] at h
    simpa using h
  rw [this, Bool.and_false]
theorem jo_ok {zs : List ByteArray} (h : (jrn zs zs.length).size ≤ 16000) (ha : ∀ k, k < zs.length → nlIn (zAt zs k) = false) : joOk zs = true := by
  unfold joOk
  have : (zs.all fun z => !nlIn z) = true := by
    rw [List.all_eq_true]
    intro x hx
    obtain ⟨k, hk, rfl⟩ := List.getElem_of_mem hx
    have := ha k hk
    unfold zAt at this
    rw [List.getD_eq_getElem?_getD, List.getElem?_eq_getElem hk] at this
    simpa using this
  rw [this, decide_eq_true h]; rfl
theorem builder_kept {T e B b : Nat} {bs : List Value} {w w' : World} (h : Lib.IsBuilder T e B b bs w) (hb : Below w.heap.size w w') : Lib.IsBuilder T e B b bs w' := by
  have go (p : Value) (h : Lib.BuilderAt T e B b p bs w) : Lib.BuilderAt T e B b p bs w' := by
    obtain ⟨hB, v, hk, ⟨h1, h2⟩, hne⟩ := h
    refine ⟨hB, v, (hb.block b (Array.getElem?_eq_some_iff.1 hk).1).trans hk, ⟨h1, ?_⟩, hne⟩
    rcases h2 with h2 | ⟨g, cap, cur, e', hg, hc, h3⟩
    · exact .inl h2
    · exact .inr ⟨g, cap, cur, e', hg, (hb.block g (Array.getElem?_eq_some_iff.1 hc).1).trans hc, h3⟩
  exact h.imp (go _) (go _)
theorem str_cells (a b : ByteArray) : Lib.byteCells a.data.toList ++ Lib.strCells b = Lib.byteCells (a ++ b).data.toList := by
  rw [Lib.strCells_eq]
  unfold Lib.byteCells
  rw [← List.map_append]
  congr 1
theorem byteCells_len (a : ByteArray) : (Lib.byteCells a.data.toList).length = a.size := by rw [Lib.byteCells_length]; exact Array.length_toList

set_option maxHeartbeats 3200000 in
set_option maxRecDepth 8000 in
theorem implJo_any (v : Value) (zs : List ByteArray) (w : World) (hr : ZRow w v zs) (hl : zs.length ≤ 1048576) (hz : ∀ k, k < zs.length → (zAt zs k).size ≤ 1048576) (ht : Tabs w) : Calls Tryd.prog 17 #[v] w (JoB zs w) := by
  have HR := Lib.hid hr
  have HT := Lib.hid ht
  have HZ := Lib.hid hz
  have HJN := Lib.hid (fun (h : joOk zs = false) => JoB_no (w := w) h)
  have HJY := Lib.hid (fun (h : joOk zs = true) => JoB_yes (w := w) h)
  have HE := Lib.hid (fun n (s : ByteArray) w1 h0 h1 hs hT => implEnt_any n s w1 h0 h1 hs hT)
  have HCn := Lib.hid (fun (s : ByteArray) (w1 : World) => Tryd.strings_Contains_one s 10 w1)
  have HLn := Lib.hid (fun (l : ByteArray) (w1 : World) (h : Lib.IsBuilder 81 5 w.heap.size w.heap.size (Lib.byteCells l.data.toList) w1) => Tryd.Builder_Len w.heap.size w.heap.size _ w1 h)
  have HW := Lib.hid (fun (l s : ByteArray) (w1 : World) (h : Lib.IsBuilder 81 5 w.heap.size w.heap.size (Lib.byteCells l.data.toList) w1) h1 h2 => writeS_any w.heap.size w.heap.size _ s w1 h h1 h2)
  have HSt := Lib.hid (fun (l : ByteArray) (w1 : World) (h : Lib.IsBuilder 81 5 w.heap.size w.heap.size (Lib.byteCells l.data.toList) w1) h2 => Tryd.Builder_String_any w.heap.size w.heap.size l.data.toList w1 h h2)
  have I0 : Hid (Lib.IsBuilder 81 5 w.heap.size w.heap.size (Lib.byteCells (jrn zs 0).data.toList) (w.alloc (.cells #[.pointer none, .slice none 0 0] 81))) := Lib.hid (Lib.fresh_isBuilder 81 5 w)
  have B0 := Lib.hid (below_al1 w (.cells #[.pointer none, .slice none 0 0] 81))
  obtain ⟨a, cap, rfl⟩ := hr.shape
  clear hr hz ht
  obtain ⟨n, hn⟩ : ∃ n, zs.length = n := ⟨_, rfl⟩
  have HN := Lib.hid hn
  rw [hn] at hl ⊢
  have CL : Hid (∀ k, k < n → ∃ b off, a = some ⟨b, off, none⟩ ∧ w.cell? ⟨b, off + k, none⟩ = some (.string (zAt zs k))) := Lib.hid (fun k hk => by
    obtain ⟨b, off, c, e, hc⟩ := HR.out.cells (by omega)
    refine ⟨b, off, by cases e; rfl, hc k (by omega)⟩)
  clear hn HR
  go_enter Tryd.func17, Tryd.ntmps17
  go_wp2
  go_loopw [5, 7, 8, 9, 12] (fun c _ _ _ i wr => ∃ k : Nat, k ≤ n ∧ i = .int .i64 k ∧ c = .int .i64 (cks zs k) ∧ Hid ((jrn zs k).size ≤ 16000) ∧ Hid (∀ j, j < k → nlIn (zAt zs j) = false) ∧ Hid (Lib.IsBuilder 81 5 w.heap.size w.heap.size (Lib.byteCells (jrn zs k).data.toList) wr) ∧ Hid (Below w.heap.size w wr)) (fun _ _ _ _ i _ => n - (intOf i).toNat)
  case atStart => exact ⟨0, Nat.zero_le _, rfl, rfl, Lib.hid (by show (0 : Nat) ≤ _; omega), Lib.hid (fun j h => by omega), I0, B0⟩
  case round =>
    obtain ⟨k, hk, rfl, rfl, hsz, hall, hI, hb⟩ := hrel
    by_cases hlt : k < n
    · obtain ⟨b, off, ha, hcell0⟩ := CL.out k hlt
      subst ha
      have hcell : wr.cell? ⟨b, off + k, none⟩ = some (.string (zAt zs k)) := (hb.out.cell (p := ⟨b, off + k, none⟩) (cell_lt hcell0)).trans hcell0
      clear hcell0
      have hi0 : (0 : Int) ≤ (k : Int) := by omega
      have hi1 : (k : Int) < (n : Int) := by omega
      have hcb := cks_bd zs k
      have hz1 := HZ.out k (by have := HN.out; omega)
      have HEn := Lib.hid (HE.out (cks zs k) (zAt zs k) wr hcb.1 hcb.2 hz1 (HT.out.below hb.out))
      have HJ1 : Hid (jrn zs (k + 1) = jrn zs k ++ entZ (cks zs (k + 1)) (zAt zs k)) := Lib.hid rfl
      have HC1 : Hid (cks zs (k + 1) = chkTo (zAt zs k) (cks zs k) (zAt zs k).size) := Lib.hid rfl
      rw [← HC1.out] at HEn
      have HNl : Hid (nlIn (zAt zs k) = true → joOk zs = false) := Lib.hid (jo_nl (by have := HN.out; omega))
      have HLo : Hid (16000 < (jrn zs (k + 1)).size → joOk zs = false) := Lib.hid (jo_long (by have := HN.out; omega))
      have HAl : Hid (nlIn (zAt zs k) = false → ∀ j, j < k + 1 → nlIn (zAt zs j) = false) := Lib.hid (fun h j hj => by
        by_cases e : j = k
        · rw [e]; exact h
        · exact hall.out j (by omega))
      have HCt := Lib.hid (HCn.out (zAt zs k))
      unfold nlIn at HNl HAl
      have hes : (entZ (cks zs (k + 1)) (zAt zs k)).size ≤ 1048576 + 23 := by
        have h1 := decZ_sz (cks_bd zs (k + 1)).1 (cks_bd zs (k + 1)).2
        unfold entZ
        rw [ByteArray.size_append, ByteArray.size_append, ByteArray.size_append]
        show _ + 1 + _ + 1 ≤ _
        omega
      obtain ⟨z, hzz⟩ : ∃ z, zAt zs k = z := ⟨_, rfl⟩
      obtain ⟨c0, hc0⟩ : ∃ c0, cks zs k = c0 := ⟨_, rfl⟩
      obtain ⟨c1, hc1⟩ : ∃ c1, cks zs (k + 1) = c1 := ⟨_, rfl⟩
      obtain ⟨J, hJ⟩ : ∃ J, jrn zs k = J := ⟨_, rfl⟩
      have HC3 := Lib.hid hc1
      rw [hzz, hc0, hc1] at HEn
      rw [hzz, hc1, hJ] at HJ1
      rw [hzz] at hcell HNl HAl HCt
      rw [hzz, hc1] at hes
      rw [hJ] at hsz hI
      rw [hc0]
      obtain ⟨E, hE⟩ : ∃ E, entZ c1 z = E := ⟨_, rfl⟩
      rw [hE] at HEn HJ1 hes
      clear hcb hz1 HC1 hzz hc0 hc1 hJ hE hall
      obtain ⟨t, htt⟩ : ∃ t, decide (0 ≤ Lib.indexByte z.data.toList 10) = t := ⟨_, rfl⟩
      rw [htt] at HNl HAl HCt
      clear htt
      go_wp2_with fail
      refine HEn.out.mono ?_
      rintro e w1 ⟨rfl, hb1⟩
      have I1 := Lib.hid (builder_kept hI.out hb1)
      have B1 := Lib.hid (below_step hb.out hb1)
      clear hb1
      go_wp2_with fail
      refine (HCt.out w1).mono ?_
      rintro e w2 ⟨rfl, rfl⟩
      cases t with
      | true =>
        have HRt := Lib.hid (HJN.out (HNl.out rfl))
        clear HNl HAl
        go_wp2
        go_ret2
        rw [HRt.out]
        exact ⟨rfl, B1.out⟩
      | false =>
        have HA2 := Lib.hid (HAl.out rfl)
        clear HNl HAl
        have HLe := Lib.hid (HLn.out J _ I1.out)
        rw [byteCells_len] at HLe
        have hjs := hsz.out
        have HS1 : Hid ((jrn zs (k + 1)).size = J.size + E.size) := Lib.hid (by rw [HJ1.out, ByteArray.size_append])
        go_wp2_with fail
        refine HLe.out.mono ?_
        rintro e w3 ⟨rfl, rfl⟩
        by_cases hbig : 16000 < J.size + E.size
        · have HRt := Lib.hid (HJN.out (HLo.out (by rw [HS1.out]; exact hbig)))
          have hdd : decide (16000 < (J.size : Int) + (E.size : Int)) = true := decide_eq_true (by omega)
          go_wp2
          go_ret2
          rw [HRt.out]
          exact ⟨rfl, B1.out⟩
        · have hdd : decide (16000 < (J.size : Int) + (E.size : Int)) = false := decide_eq_false (by omega)
          have HWr := Lib.hid (HW.out J E _ I1.out (by rw [byteCells_len]; omega) B1.out.size)
          rw [str_cells, ← HJ1.out] at HWr
          have HS2 : Hid ((jrn zs (k + 1)).size ≤ 16000) := Lib.hid (by rw [HS1.out]; omega)
          go_wp2_with fail
          refine HWr.out.mono ?_
          rintro e w4 ⟨rfl, hI4, hb4⟩
          have I4 := Lib.hid hI4
          have B4 := Lib.hid (B1.out.trans hb4)
          clear hI4 hb4
          go_wp2
          go_roundw
          case rel => exact ⟨k + 1, by omega, by go_num, by rw [HC3.out], HS2, HA2, I4, B4⟩
          case measure => simp [intOf]; omega
    · have e : k = n := by omega
      have HRt := Lib.hid (HJY.out (jo_ok (by rw [HN.out, ← e]; exact hsz.out) (fun j hj => hall.out j (by have := HN.out; omega))))
      rw [HN.out, ← e] at HRt
      have HSx := Lib.hid (HSt.out (jrn zs k) wr hI.out hb.out.size)
      obtain ⟨J, hJ⟩ : ∃ J, jrn zs k = J := ⟨_, rfl⟩
      rw [hJ] at HRt HSx
      clear hJ
      go_wp2_with fail
      refine HSx.out.mono ?_
      rintro e w1 ⟨rfl, hb1⟩
      have B1 := Lib.hid (hb.out.trans hb1)
      clear hb1
      go_wp2
      go_ret2
      rw [HRt.out]
      exact ⟨rfl, B1.out⟩
end Go.Proofs.YthedpbdeahieaaaDoor
