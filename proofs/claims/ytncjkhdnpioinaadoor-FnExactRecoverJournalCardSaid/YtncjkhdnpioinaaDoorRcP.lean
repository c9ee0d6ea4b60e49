/- Journals recovered: what both sides answer, and one round of the program's loop. -/
import Derived.Test.YtncjkhdnpioinaaDoorRcM
import Derived.Test.YtncjkhdnpioinaaDoorEnt
import Derived.Test.YtncjkhdnpioinaaDoorMarkZ
import Derived.Test.YtncjkhdnpioinaaDoorCutW
import Derived.Lib.CutLaws
namespace Go.Proofs.YtncjkhdnpioinaaDoor
open Go.RowKit
set_option linter.unusedVariables false

abbrev CK (s : ByteArray) (c : Int) : Int := chkTo s c s.size
def rcOk (t : ByteArray) : Bool := decide (t.size ≤ 16000)
def rcL (t : ByteArray) : List ByteArray := if t.size ≤ 16000 then (rcv CK (linP t) 0).1 else []
def rcN (t : ByteArray) : Int := if t.size ≤ 16000 then ((rcv CK (linP t) 0).2 : Int) else 0
def RcB (t : ByteArray) (w : World) (e : Ending) (w' : World) : Prop := ∃ v, e = .returned (.tuple #[v, .int .i64 (rcN t), .bool (rcOk t)]) ∧ ZRow w' v (rcL t) ∧ Below w.heap.size w w'
def RcO (t : ByteArray) (w : World) (e : Ending) (w' : World) : Prop := ∃ v, e = .returned (.tuple #[v, .int .i64 (rcN t), .bool (rcOk t)]) ∧ OZRow w.heap.size w' v (rcL t) ∧ Below w.heap.size w w'
theorem rc_no {t : ByteArray} (h : ¬ t.size ≤ 16000) : rcOk t = false ∧ rcL t = [] ∧ rcN t = 0 := by
  unfold rcOk rcL rcN
  rw [if_neg h, if_neg h]
  exact ⟨decide_eq_false h, rfl, rfl⟩
theorem rc_yes {t : ByteArray} {done : List ByteArray} {n : Nat} (h : t.size ≤ 16000) (e : rcv CK (linP t) 0 = (done, n)) : rcOk t = true ∧ rcL t = done ∧ rcN t = (n : Int) := by
  unfold rcOk rcL rcN
  rw [if_pos h, if_pos h, e]
  exact ⟨decide_eq_true h, rfl, rfl⟩
theorem CK_bd {c : Int} (s : ByteArray) (h0 : 0 ≤ c) (h1 : c < 65003) : 0 ≤ CK s c ∧ CK s c < 65003 := chkTo_bd s c h0 h1 _
theorem entZ_list (c : Int) (l : ByteArray) : (entZ c l).data.toList = entL c l.data.toList := by
  unfold entZ entL
  rw [decZ_itoa]
  simp [ByteArray.data_append]
theorem ext_list {a b : ByteArray} (h : a.data.toList = b.data.toList) : a = b := by
  apply ByteArray.ext
  apply Array.ext'
  exact h
theorem mk_list (l : List UInt8) : (⟨l.toArray⟩ : ByteArray).data.toList = l := by simp
/-- where the program's loop stands: what is recovered, the rest, the check number -/
structure RcT (t : ByteArray) (done : List ByteArray) (s : ByteArray) (c : Int) : Prop where
  st : RcSt CK t done (t.size - s.size) (linP s) c
  le : s.size ≤ t.size
theorem RcT.start (t : ByteArray) : RcT t [] t 0 := ⟨by rw [Nat.sub_self]; exact RcSt.start CK t, Nat.le_refl _⟩
abbrev cut1 (s : ByteArray) (c : UInt8) : ByteArray := ⟨(Lib.cut s.data.toList (mkZ c).data.toList).1.toArray⟩
abbrev cut2 (s : ByteArray) (c : UInt8) : ByteArray := ⟨(Lib.cut s.data.toList (mkZ c).data.toList).2.1.toArray⟩
theorem cut_none {s : ByteArray} {c : UInt8} (h : ∀ j, j < s.size → s.data.toList[j]? ≠ some c) : cut1 s c = s ∧ cut2 s c = ⟨#[]⟩ := by
  obtain ⟨h1, h2, _⟩ := Lib.cutB_miss s (mkZ c) (idx_none h)
  exact ⟨h1, h2⟩
theorem cut_at {s : ByteArray} {c : UInt8} {i : Nat} (h : ∀ j, j < i → s.data.toList[j]? ≠ some c) (hi : s.data.toList[i]? = some c) : cut1 s c = s.extract 0 i ∧ cut2 s c = s.extract (i + 1) s.size := by
  obtain ⟨h1, h2, _⟩ := Lib.cutB_hit s (mkZ c) i (idx_at h hi)
  exact ⟨h1, h2⟩
theorem rc_round {t : ByteArray} {done : List ByteArray} {s : ByteArray} {c : Int} (h : RcT t done s c) (h0 : 0 ≤ c) (h1 : c < 65003) :
    ∃ f l, cut1 s 10 = f ∧ cut2 f 32 = l ∧ f.size ≤ s.size ∧ l.size ≤ s.size ∧
      ((Lib.hasPrefix s.data.toList (entZ (CK l c) l).data.toList = false ∧ rcv CK (linP t) 0 = (done, t.size - s.size)) ∨
       (Lib.hasPrefix s.data.toList (entZ (CK l c) l).data.toList = true ∧ ∃ s', (⟨(Lib.trimPrefix s.data.toList (entZ (CK l c) l).data.toList).toArray⟩ : ByteArray) = s' ∧ s'.size < s.size ∧ RcT t (done ++ [l]) s' (CK l c))) := by
  obtain ⟨st, le⟩ := h
  have hsz := Lib.size_eq s
  rcases first_mark 10 s.data.toList with h | ⟨i, h, hi⟩
  · have hn : ∀ j, j < s.size → s.data.toList[j]? ≠ some 10 := fun j hj => h j (by omega)
    have hl : (cut2 s 32).size ≤ s.size := by
      rcases first_mark 32 s.data.toList with h' | ⟨k, h', hk⟩
      · rw [(cut_none (fun j hj => h' j (by omega))).2]; exact Nat.zero_le _
      · rw [(cut_at h' hk).2, size_ex]; omega
    refine ⟨s, _, (cut_none hn).1, rfl, Nat.le_refl _, hl, .inl ⟨?_, ?_⟩⟩
    · rw [entZ_list]; exact pf_none h
    · rw [linP_none hn] at st
      exact st.nil CK
  · have hlt := lt_of_at hi
    have hlin := linP_at h hi
    rw [hlin] at st
    obtain ⟨L, hL⟩ : ∃ L, s.extract 0 i = L := ⟨_, rfl⟩
    rw [hL] at st hlin
    have hLl : L.data.toList = s.data.toList.take i := by rw [← hL, ex_list]; simp
    have hLs : L.size = i := by rw [Lib.size_eq, hLl]; simp; omega
    have hLz := Lib.size_eq L
    rcases first_mark 32 L.data.toList with h' | ⟨k, h', hk⟩
    · refine ⟨L, ⟨#[]⟩, by rw [(cut_at h hi).1, hL], (cut_none (fun j hj => h' j (by omega))).2, by omega, Nat.zero_le _, .inl ⟨?_, ?_⟩⟩
      · rw [entZ_list]
        exact pf_blank (CK_bd _ h0 h1).1 h hi hL.symm h'
      · exact st.no CK (ok_blank CK h')
    · have hb := blk_first h' hk
      have hkl := lt_of_at hk
      have hln : L.extract (k + 1) L.size = lnOf L := by unfold lnOf; rw [hb]
      refine ⟨L, lnOf L, by rw [(cut_at h hi).1, hL], by rw [(cut_at h' hk).2, hln], by omega, by rw [← hln, size_ex]; omega, ?_⟩
      have hp := pf_at CK (c := c) (CK_bd _ h0 h1).1 h hi hL.symm (by rw [hb]; omega) (by rw [hb]; exact hk) (by rw [hb]; exact h')
      rw [entZ_list]
      cases ho : okP CK c L with
      | false => exact .inl ⟨by rw [hp, ho], st.no CK ho⟩
      | true =>
        rw [ho] at hp
        refine .inr ⟨hp, s.extract (i + 1) s.size, ?_, by rw [size_ex]; omega, ?_, by rw [size_ex]; omega⟩
        · refine ext_list ?_
          rw [mk_list]
          unfold Lib.trimPrefix
          rw [if_pos hp, ok_len CK ho, hLs, Lib.extract_to_end]
        · have e := st.yes CK ho
          rw [size_ex, show t.size - (s.size - (i + 1)) = t.size - s.size + (L.size + 1) from by omega]
          exact e
end Go.Proofs.YtncjkhdnpioinaaDoor
