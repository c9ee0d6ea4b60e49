/- Journals: the specification. -/
import Derived.Test.YthedpbdeahieaaaDoorJoI
import Derived.Test.YthedpbdeahieaaaDoorDec
import Derived.Test.YthedpbdeahieaaaDoorCutW
import Derived.Test.YthedpbdeahieaaaDoorFacts2
namespace Go.Proofs.YthedpbdeahieaaaDoor
open Go.RowKit
set_option linter.unusedVariables false

/-- the least that a journal's first lines take -/
def tot (zs : List ByteArray) : Nat → Nat
  | 0 => 0
  | k + 1 => tot zs k + ((zAt zs k).size + 3)
theorem itoa_pos (k : Int) : 1 ≤ (Lib.itoa k).length := by
  unfold Lib.itoa
  split
  · simp
  · rw [Lib.decDigits_length]; exact Lib.nDigits_pos _
theorem decZ_pos {k : Int} (h0 : 0 ≤ k) (h1 : k < 65003) : 1 ≤ (decZ k).size := by
  have e : (decZ k).size = (Lib.itoa k).length := by
    rw [decZ_itoa]; show (Lib.itoa k).toArray.size = _; rw [List.size_toArray]
  rw [e]
  exact (itoa_pos k)
theorem ent_size {c : Int} (h0 : 0 ≤ c) (h1 : c < 65003) (z : ByteArray) : z.size + 3 ≤ (entZ c z).size ∧ (entZ c z).size ≤ z.size + 23 := by
  have a := decZ_pos h0 h1
  have b := decZ_sz h0 h1
  unfold entZ
  rw [ByteArray.size_append, ByteArray.size_append, ByteArray.size_append]
  have e1 : (⟨#[32]⟩ : ByteArray).size = 1 := rfl
  have e2 : (⟨#[10]⟩ : ByteArray).size = 1 := rfl
  omega
theorem tot_jrn (zs : List ByteArray) : ∀ k, tot zs k ≤ (jrn zs k).size ∧ (jrn zs k).size ≤ tot zs k + 20 * k ∧ 3 * k ≤ tot zs k
  | 0 => ⟨Nat.le_refl _, Nat.le_refl _, Nat.le_refl _⟩
  | k + 1 => by
    obtain ⟨h1, h2, h3⟩ := tot_jrn zs k
    have h4 := ent_size (cks_bd zs (k + 1)).1 (cks_bd zs (k + 1)).2 (zAt zs k)
    have e : (jrn zs (k + 1)).size = (jrn zs k).size + (entZ (cks zs (k + 1)) (zAt zs k)).size := ByteArray.size_append
    have e2 : tot zs (k + 1) = tot zs k + ((zAt zs k).size + 3) := rfl
    omega
theorem nl_yes {z : ByteArray} {j : Nat} (hj : j < z.size) (h : byteAt z j = 10) : nlIn z = true := by
  unfold nlIn
  have hg := Lib.indexByte_ge z.data.toList 10
  refine decide_eq_true ?_
  by_cases e : Lib.indexByte z.data.toList 10 = -1
  · exact absurd ((by_at hj 10).2 h) (Lib.indexByte_none e j)
  · omega
theorem nl_no {z : ByteArray} (h : ∀ j, j < z.size → byteAt z j ≠ 10) : nlIn z = false := by
  unfold nlIn
  refine decide_eq_false (fun h0 => ?_)
  obtain ⟨o, ho⟩ : ∃ o : Nat, Lib.indexByte z.data.toList 10 = o := ⟨(Lib.indexByte z.data.toList 10).toNat, by omega⟩
  have hs := (Lib.indexByte_some ho).1
  have hL : z.data.toList.length = z.size := Array.length_toList
  have hlt : o < z.size := by
    by_cases hx : o < z.data.toList.length
    · omega
    · rw [List.getElem?_eq_none (Nat.le_of_not_lt hx)] at hs; cases hs
  exact h o hlt ((by_at hlt 10).1 hs)

set_option maxHeartbeats 1600000 in
set_option maxRecDepth 20000 in
theorem specJr_any (v : Value) (zs : List ByteArray) (w : World) (hr : ZRow w v zs) (hl : zs.length ≤ 1048576) (hz : ∀ k, k < zs.length → (zAt zs k).size ≤ 1048576) (hj : (jrn zs zs.length).size ≤ 1000000000) : Calls Tryd.prog 48 #[v] w fun e w' => e = .returned (.string (jrn zs zs.length)) ∧ Below w.heap.size w w' := by
  have HR := Lib.hid hr
  have HZ := Lib.hid hz
  have HJ := Lib.hid (fun k (hk : k ≤ zs.length) => Nat.le_trans (jrn_le zs hk) hj)
  have HCk := Lib.hid (fun (s : ByteArray) c w1 h0 h1 hs => specCheck_any s c w1 h0 h1 hs)
  have HD := Lib.hid (fun c w1 (h0 : 0 ≤ c) (h1 : c < 65003) => specDec_any c w1 (by omega) (by omega))
  obtain ⟨a, cap, rfl⟩ := hr.shape
  clear hr hz hj
  obtain ⟨n, hn⟩ : ∃ n, zs.length = n := ⟨_, rfl⟩
  have HN := Lib.hid hn
  rw [hn] at hl HJ ⊢
  have CL : Hid (∀ k, k < n → ∃ b off, a = some ⟨b, off, none⟩ ∧ w.cell? ⟨b, off + k, none⟩ = some (.string (zAt zs k))) := Lib.hid (fun k hk => by
    obtain ⟨b, off, c, e, hc⟩ := HR.out.cells (by omega)
    refine ⟨b, off, by cases e; rfl, hc k (by omega)⟩)
  clear hn HR
  go_enter Tryd.func48, Tryd.ntmps48
  go_wp2
  go_loopw [3, 4, 5] (fun o c i wr => ∃ k : Nat, k ≤ n ∧ i = .int .i64 k ∧ c = .int .i64 (cks zs k) ∧ o = .string (jrn zs k) ∧ Hid (Below w.heap.size w wr)) (fun _ _ i _ => n - (intOf i).toNat)
  case atStart => exact ⟨0, Nat.zero_le _, rfl, rfl, rfl, Lib.hid (Below.refl _ _)⟩
  case round =>
    obtain ⟨k, hk, rfl, rfl, rfl, hb⟩ := hrel
    by_cases hlt : k < n
    · obtain ⟨b, off, ha, hcell0⟩ := CL.out k hlt
      subst ha
      have hcell : wr.cell? ⟨b, off + k, none⟩ = some (.string (zAt zs k)) := (hb.out.cell (p := ⟨b, off + k, none⟩) (cell_lt hcell0)).trans hcell0
      clear hcell0
      have hi0 : (0 : Int) ≤ (k : Int) := by omega
      have hi1 : (k : Int) < (n : Int) := by omega
      have hcb := cks_bd zs k
      have HCn := Lib.hid (HCk.out (zAt zs k) (cks zs k) wr hcb.1 hcb.2 (HZ.out k (by have := HN.out; omega)))
      have HC1 : Hid (cks zs (k + 1) = chkTo (zAt zs k) (cks zs k) (zAt zs k).size) := Lib.hid rfl
      rw [← HC1.out] at HCn
      have HJ1 : Hid (jrn zs (k + 1) = jrn zs k ++ (decZ (cks zs (k + 1)) ++ ⟨#[32]⟩ ++ zAt zs k ++ ⟨#[10]⟩)) := Lib.hid rfl
      have HD1 := Lib.hid (fun w1 => HD.out (cks zs (k + 1)) w1 (cks_bd zs (k + 1)).1 (cks_bd zs (k + 1)).2)
      have s1 := decZ_sz (cks_bd zs (k + 1)).1 (cks_bd zs (k + 1)).2
      have s2 := HZ.out k (by have := HN.out; omega)
      have s3 := HJ.out k (by omega)
      obtain ⟨z, hzz⟩ : ∃ z, zAt zs k = z := ⟨_, rfl⟩
      obtain ⟨c0, hc0⟩ : ∃ c0, cks zs k = c0 := ⟨_, rfl⟩
      obtain ⟨c1, hc1⟩ : ∃ c1, cks zs (k + 1) = c1 := ⟨_, rfl⟩
      obtain ⟨J, hJ⟩ : ∃ J, jrn zs k = J := ⟨_, rfl⟩
      obtain ⟨td, htd⟩ : ∃ td, decZ c1 = td := ⟨_, rfl⟩
      have HC3 := Lib.hid hc1
      rw [hzz, hc0, hc1] at HCn
      rw [hzz, hc1, hJ, htd] at HJ1
      rw [hc1, htd] at HD1 s1
      rw [hzz] at hcell s2
      rw [hJ] at s3
      rw [hc0, hJ]
      have n1 : ¬ (9223372036854775807 < td.size + 1) := by omega
      have n2 : ¬ (9223372036854775807 < td.size + 1 + z.size) := by omega
      have n3 : ¬ (9223372036854775807 < td.size + 1 + z.size + 1) := by omega
      have n4 : ¬ (9223372036854775807 < J.size + (td.size + 1 + z.size + 1)) := by omega
      have FACT := Lib.hid (fun w1 (hw : Ext wr w1) => hw.cell hcell)
      clear hcb HC1 hzz hc0 hc1 hJ htd s1 s2 s3
      go_wp2_with fail
      refine HCn.out.mono ?_
      rintro e w1 ⟨rfl, rfl⟩
      clear hcell
      go_wp2
      refine wp_region_facts (Ext wr) (TS [(20, fIs (.string td))]) (Pers.ext _) (TS.pers _) (Ext.start _) (by kernel_rfl) (by kernel_rfl) (by intro d v c a w h; cases d <;> exact h) ?_
      repeat (refine wpF_val rfl monoQ_end (by rintro _ ⟨⟩; rfl) ?_ (fun w1 hw1 => ?_) (fun K hK => ?_); rotate_left; (focus (have hF := FACT.out w1 hw1; go_simp; first | done | rfl)); go_simp; refine hK _ ?_; clear hK K)
      refine wpF_callF rfl 20 rfl 58 #[.int .i64 c1] (fIs (.string td)) rfl (fun w1 => ?_) (fun w1 hC hN => ?_) (fun v1 hv1 => ?_)
      · go_simp
      · refine (HD1.out w1).mono ?_
        rintro _ w2 ⟨rfl, hb⟩
        exact ⟨_, rfl, hb, rfl⟩
      obtain ⟨_, rfl⟩ := hv1
      repeat (refine wpF_val rfl monoQ_end (by rintro _ ⟨⟩; rfl) ?_ (fun w1 hw1 => ?_) (fun K hK => ?_); rotate_left; (focus (have hF := FACT.out w1 hw1; go_simp; first | done | rfl)); go_simp; refine hK _ ?_; clear hK K)
      refine wpFacts_nil ?_
      intro w3 hb3 _
      have B3 := Lib.hid (below_step hb.out hb3)
      clear hb3
      rw [← HJ1.out]
      go_wp2
      go_roundw
      case rel => exact ⟨k + 1, by omega, by go_num, by rw [HC3.out], rfl, B3⟩
      case measure => simp [intOf]; omega
    · have e : k = n := by omega
      subst e
      go_wp2
      go_ret
      exact ⟨rfl, hb.out⟩
end Go.Proofs.YthedpbdeahieaaaDoor
