/- A text cut at a mark: the specification's loop. -/
import Derived.Test.YtncjkhdnpioinaaDoorCutZ
import Derived.Test.YtncjkhdnpioinaaDoorAppZ
import Derived.Test.YtncjkhdnpioinaaDoorBy
import Derived.Test.YtncjkhdnpioinaaDoorCell
import Derived.Lib.Hide
namespace Go.Proofs.YtncjkhdnpioinaaDoor
open Go.RowKit
set_option linter.unusedVariables false

theorem by_at {s : ByteArray} {k : Nat} (h : k < s.size) (c : UInt8) : s.data.toList[k]? = some c ↔ byteAt s k = (c.toNat : Int) := by
  have hL : s.data.toList.length = s.size := Array.length_toList
  have hl : k < s.data.toList.length := by omega
  unfold byteAt
  rw [List.getD_eq_getElem?_getD, List.getElem?_eq_getElem hl]
  simp only [Option.getD_some, Option.some.injEq]
  constructor
  · intro h; rw [h]
  · intro h
    exact UInt8.toNat_inj.1 (by omega)
theorem OwnZ.lit1 (w : World) (base : Nat) (hb : base ≤ w.heap.size) (z : ByteArray) : OwnZ (w.alloc (.cells #[.string z] 9)) base (.slice (some ⟨w.heap.size, 0, none⟩) 1 1) [z] :=
  World.ownsRow_lit (w := w) (base := base) (e := 9) (size := 1) #[.string z] 1 hb (by decide) rfl
theorem cutZ_snoc (c : UInt8) (s : ByteArray) : ∃ zs z, cutZ c s = zs ++ [z] := by
  have h := cutZ_length c s
  have : cutZ c s ≠ [] := by intro e; rw [e] at h; simp at h
  exact ⟨_, _, (List.dropLast_concat_getLast this).symm⟩

set_option maxHeartbeats 1600000 in
set_option maxRecDepth 4000 in
theorem specCut_any (s : ByteArray) (c : UInt8) (m : Int) (hm : (c.toNat : Int) = m) (w : World) (hs : s.size ≤ 1048576) : Calls Tryd.prog 107 #[.string s, .int .u8 m] w fun e w' => ∃ v, e = .returned v ∧ OwnZ w' w.heap.size v (cutZ c s) ∧ Below w.heap.size w w' := by
  have Bw := Lib.hid (below_al1 w (.cells #[] 9))
  have O0 := Lib.hid (OwnZ.empty w w.heap.size (Nat.le_refl _))
  go_enter Tryd.func107, Tryd.ntmps107
  go_wp2
  go_loopw [5, 6, 7] (fun v f i wr => ∃ (v0 : Value) (k f' : Nat) (done : List ByteArray), v = v0 ∧ i = .int .i64 k ∧ f = .int .i64 f' ∧ k ≤ s.size + 1 ∧ f' ≤ k ∧ Hid (k ≤ s.size → CutAt c s k f' done) ∧ Hid (k = s.size + 1 → done = cutZ c s) ∧ Hid (done.length ≤ k) ∧ Hid (OwnZ wr w.heap.size v0 done) ∧ Hid (Below w.heap.size w wr)) (fun _ _ i _ => s.size + 2 - (intOf i).toNat)
  case atStart => exact ⟨_, 0, 0, [], rfl, rfl, rfl, Nat.zero_le _, Nat.le_refl _, Lib.hid (fun _ => CutAt.start c s), Lib.hid (fun h => by omega), Lib.hid (Nat.le_refl _), O0, Bw⟩
  case round =>
    obtain ⟨v, k, f, done, rfl, rfl, rfl, hk, hf, hc, he, hl, ho, hb⟩ := hrel
    by_cases hin : k ≤ s.size
    · have hC := Lib.hid (hc.out hin)
      have hdle : decide ((k : Int) ≤ (s.size : Int)) = true := decide_eq_true (by omega)
      clear hc he
      obtain ⟨x, hx⟩ : ∃ x, s.extract f k = x := ⟨_, rfl⟩
      have OL := Lib.hid (ho.out.al (.cells #[.string x] 9))
      have B2 := Lib.hid (hb.out.alloc (hb.out.size) (.cells #[.string x] 9))
      have CS : Hid ((wr.alloc (.cells #[.string x] 9)).cell? ⟨wr.heap.size, 0, none⟩ = some (.string x)) := Lib.hid ((OwnZ.lit1 wr w.heap.size (hb.out.size) x).cellAt 0 (by simp))
      have HL := Lib.hid hl.out
      by_cases hlt : k < s.size
      · have hbe := byteAt_eq s k hlt
        have hne : ((k : Int) == (s.size : Int)) = false := by simp; omega
        by_cases hm' : byteAt s k = m
        · have hq : (byteAt s k == m) = true := by simp [hm']
          have HN := Lib.hid (hC.out.hit hlt ((by_at hlt c).2 (by rw [hm, hm'])))
          rw [hx] at HN
          have HX := Lib.hid hx
          have H1 : Hid (done.length ≤ 1048576) := Lib.hid (by have := hl.out; omega)
          clear hx hm' hl hC
          go_wp2_with (first | (at_builtin; rw [HX.out]; refine wpList_appZ rfl _ _ rfl w.heap.size _ done rfl OL.out wr.heap.size 1 x rfl CS.out H1.out (B2.out.size) ?_; intro v' w' hO' hB'))
          have B3 := Lib.hid (B2.out.trans hB')
          have O3 := Lib.hid hO'
          clear hO' hB'
          go_wp2
          refine ⟨⟨_, k + 1, k + 1, _, rfl, by go_num, by go_num, by omega, Nat.le_refl _, Lib.hid (fun _ => HN.out), Lib.hid (fun h => by omega), Lib.hid (by have := HL.out; simp; omega), O3, B3⟩, ?_⟩
          simp [intOf]; omega
        · have hq : (byteAt s k == m) = false := by simp [hm']
          have HN := Lib.hid (hC.out.miss hlt (fun h => hm' (by rw [← hm]; exact (by_at hlt c).1 h)))
          clear hx hm' hl hC OL B2 CS
          go_wp2
          refine ⟨⟨_, k + 1, f, _, rfl, by go_num, rfl, by omega, by omega, Lib.hid (fun _ => HN.out), Lib.hid (fun h => by omega), Lib.hid (by have := HL.out; omega), ho, hb⟩, ?_⟩
          simp [intOf]; omega
      · have ek : k = s.size := by omega
        subst ek
        have hne : ((s.size : Int) == (s.size : Int)) = true := by simp
        have HN : Hid (done ++ [x] = cutZ c s) := Lib.hid (by
          have hC' := hC.out
          rw [hC'.last, ← hx])
        have HX := Lib.hid hx
        have H1 : Hid (done.length ≤ 1048576) := Lib.hid (by have := hl.out; omega)
        clear hx hl hC
        go_wp2_with (first | (at_builtin; rw [HX.out]; refine wpList_appZ rfl _ _ rfl w.heap.size _ done rfl OL.out wr.heap.size 1 x rfl CS.out H1.out (B2.out.size) ?_; intro v' w' hO' hB'))
        have B3 := Lib.hid (B2.out.trans hB')
        have O3 := Lib.hid hO'
        clear hO' hB'
        go_wp2
        refine ⟨⟨_, s.size + 1, s.size + 1, _, rfl, by go_num, by go_num, by omega, Nat.le_refl _, Lib.hid (fun h => by omega), Lib.hid (fun _ => HN.out), Lib.hid (by have := HL.out; simp; omega), O3, B3⟩, ?_⟩
        simp [intOf]
    · have hdle : decide ((k : Int) ≤ (s.size : Int)) = false := decide_eq_false (by omega)
      have HE := Lib.hid (he.out (by omega))
      have ho' := ho.out
      rw [HE.out] at ho'
      have HO := Lib.hid ho'
      clear hc he HE ho'
      go_wp2
      go_ret
      exact ⟨_, rfl, HO.out, hb.out⟩
end Go.Proofs.YtncjkhdnpioinaaDoor
