/- Journals recovered: the specification. -/
import Derived.Test.YtncjkhdnpioinaaDoorRcP
import Derived.Test.YtncjkhdnpioinaaDoorLines
import Derived.Test.YtncjkhdnpioinaaDoorCk
import Derived.Test.YtncjkhdnpioinaaDoorDec
import Derived.Test.YtncjkhdnpioinaaDoorJoS
namespace Go.Proofs.YtncjkhdnpioinaaDoor
open Go.RowKit
set_option linter.unusedVariables false

/-- what the specification's search answers -/
def RcQ (t : ByteArray) (w : World) (e : Ending) (w' : World) : Prop := ∃ v, e = .returned (.tuple #[v, .int .i64 ((rcv CK (linP t) 0).2 : Nat)]) ∧ ZRow w' v (rcv CK (linP t) 0).1 ∧ Below w.heap.size w w'
theorem getD_drop {zs : List ByteArray} {k : Nat} (h : k < zs.length) : zs.drop k = zs.getD k ⟨#[]⟩ :: zs.drop (k + 1) := by
  rw [List.getD_eq_getElem?_getD, List.getElem?_eq_getElem h]
  exact (List.getElem_cons_drop h).symm
theorem okP_eq (c : Int) (L : ByteArray) (j : Nat) (hj : j < L.size) (hf : ∀ i, i < j → byteAt L i ≠ 32) (hb : byteAt L j = 32) : blk L.data.toList = j ∧ okP CK c L = ((L.extract 0 j).toList == (decZ (CK (lnOf L) c)).toList) := by
  have e : blk L.data.toList = j := blk_first (fun i hi => by
    intro h
    exact hf i hi ((by_at (by omega) 32).1 h)) ((by_at hj 32).2 hb)
  refine ⟨e, ?_⟩
  unfold okP
  rw [e, decide_eq_true hj, Bool.true_and, ByteArray.toList_eq, ByteArray.toList_eq, ex_list, decZ_itoa]
  simp
theorem okP_non (c : Int) (L : ByteArray) (hf : ∀ i, i < L.size → byteAt L i ≠ 32) : okP CK c L = false :=
  ok_blank CK (fun i hi h => by
    have hsz := Lib.size_eq L
    exact hf i (by omega) ((by_at (by omega) 32).1 h))

set_option maxHeartbeats 6400000 in
set_option maxRecDepth 20000 in
theorem specRc_any (t : ByteArray) (w : World) (hs : t.size ≤ 16000) : Calls Tryd.prog 90 #[.string t] w (RcQ t w) := by
  obtain ⟨zs, z, h, hl, hz⟩ := lin_snoc t
  have hlin : linP t = zs := by unfold linP; rw [h]; simp
  have HL := Lib.hid (fun w1 => specLines_any t zs z h w1 hs hl)
  have S0 := Lib.hid (RcSt.start CK t)
  have HFin : Hid (∀ done (n : Nat), rcv CK (linP t) 0 = (done, n) → ∀ v w', ZRow w' v done → Below w.heap.size w w' → RcQ t w (.returned (.tuple #[v, .int .i64 n])) w') := Lib.hid (fun done n e v w' hr hb => ⟨v, by rw [e], by rw [e]; exact hr, hb⟩)
  rw [hlin] at S0
  have HCk := Lib.hid (fun (s : ByteArray) c w1 h0 h1 hs => specCheck_any s c w1 h0 h1 hs)
  have HD := Lib.hid (fun c w1 (h0 : 0 ≤ c) (h1 : c < 65003) => specDec_any c w1 (by omega) (by omega))
  clear h hz hlin
  go_enter Tryd.func90, Tryd.ntmps90
  go_wp2_with fail
  refine (HL.out _).mono ?_
  rintro e w1 ⟨v, rfl, hr, hb⟩
  obtain ⟨a, cap, rfl⟩ := hr.shape
  have CL : Hid (∀ k, k < zs.length → ∃ b off, a = some ⟨b, off, none⟩ ∧ w1.cell? ⟨b, off + k, none⟩ = some (.string (zs.getD k ⟨#[]⟩))) := Lib.hid (fun k hk => by
    obtain ⟨b, off, c, e, hc⟩ := hr.cells (by omega)
    exact ⟨b, off, by cases e; rfl, hc k hk⟩)
  have B1 := Lib.hid hb
  have BA := Lib.hid (below_al1 w1 (.cells #[] 9))
  have O0 := Lib.hid (OwnZ.empty w1 w1.heap.size (Nat.le_refl _))
  clear hr hb
  obtain ⟨n, hn⟩ : ∃ n, zs.length = n := ⟨_, rfl⟩
  have HN := Lib.hid hn
  rw [hn] at hl ⊢
  clear hn
  go_wp2
  go_loopw [6, 7, 8, 9, 10, 11] (fun out c m i x y wr => ∃ (v0 : Value) (k N : Nat) (c0 : Int) (done : List ByteArray), out = v0 ∧ c = .int .i64 c0 ∧ m = .int .i64 N ∧ i = .int .i64 k ∧ k ≤ n ∧ 0 ≤ c0 ∧ c0 < 65003 ∧ Hid (RcSt CK t done N (zs.drop k) c0) ∧ Hid (OwnZ wr w1.heap.size v0 done) ∧ Hid (Below w1.heap.size w1 wr)) (fun _ _ _ i _ _ _ => n - (intOf i).toNat)
  case atStart => exact ⟨_, 0, 0, 0, [], rfl, rfl, rfl, rfl, Nat.zero_le _, by omega, by omega, S0, O0, BA⟩
  case round =>
    obtain ⟨v0, k, N, c0, done, rfl, rfl, rfl, rfl, hk, h0, h1, hst, ho, hb⟩ := hrel
    by_cases hlt : k < n
    · obtain ⟨b, off, ha, hcell0⟩ := CL.out k (by have := HN.out; omega)
      subst ha
      have hcell := (hb.out.cell (p := ⟨b, off + k, none⟩) (cell_lt hcell0)).trans hcell0
      have HC0 := Lib.hid hcell0
      clear hcell0
      have hst2 := hst.out
      rw [getD_drop (by have := HN.out; omega)] at hst2
      obtain ⟨L, hLL⟩ : ∃ L, zs.getD k ⟨#[]⟩ = L := ⟨_, rfl⟩
      rw [hLL] at hst2 hcell HC0
      have hLs : N + (L.size + 1) ≤ 16000 := by
        have := hst2.bd
        unfold psum at this
        rw [List.map_cons, List.sum_cons] at this
        omega
      have hdl : done.length ≤ 16000 := by have := hst2.len; omega
      have ST := Lib.hid hst2
      clear hst hst2 hLL
      have hi0 : (0 : Int) ≤ (k : Int) := by omega
      have hi1 : (k : Int) < (n : Int) := by omega
      have HBR : Hid (okP CK c0 L = false → RcQ t w (.returned (.tuple #[u6, .int .i64 N])) wr) := Lib.hid (fun h => HFin.out done N (ST.out.no CK h) _ _ (ho.out.row (by omega)) (below_step B1.out hb.out))
      have HNB : Hid ((∀ i, i < L.size → byteAt L i ≠ 32) → okP CK c0 L = false) := Lib.hid (fun h => okP_non c0 L h)
      have HOB := Lib.hid (fun j h1 h2 h3 => okP_eq c0 L j h1 h2 h3)
      go_wp2
      go_loop [10] (fun q => ∃ j : Nat, j ≤ L.size ∧ q = .int .i64 j ∧ Hid (∀ i, i < j → byteAt L i ≠ 32)) (fun q => L.size - (intOf q).toNat)
      case atStart => exact ⟨0, Nat.zero_le _, rfl, Lib.hid (fun j h => by omega)⟩
      case round =>
        obtain ⟨j, hj, rfl, hnn⟩ := hrel
        by_cases hjl : j < L.size
        · have hbe := byteAt_eq L j hjl
          have hbd := byteAt_bd L j
          by_cases h32 : byteAt L j = 32
          · obtain ⟨hblk, hok⟩ := HOB.out j hjl hnn.out h32
            have q1 : (byteAt L j == 32) = true := by simp [h32]
            have qe : ((j : Int) == (L.size : Int)) = false := by simp; omega
            have qe2 : ¬ ((j : Int) = (L.size : Int)) := by omega
            have hln : L.extract (j + 1) L.size = lnOf L := by unfold lnOf; rw [hblk]
            obtain ⟨l, hll⟩ : ∃ l, L.extract (j + 1) L.size = l := ⟨_, rfl⟩
            have hlsz : l.size ≤ 1048576 := by rw [← hll, size_ex]; omega
            rw [hll] at hln
            have STY := Lib.hid (fun h => ST.out.yes CK h)
            rw [← hln] at hok STY
            obtain ⟨hc0, hc1⟩ := CK_bd l h0 h1
            have HCn := Lib.hid (HCk.out l c0 wr h0 h1 hlsz)
            obtain ⟨c1, hcc⟩ : ∃ c1, CK l c0 = c1 := ⟨_, rfl⟩
            have hcc2 : chkTo l c0 l.size = c1 := hcc
            rw [hcc] at hok STY hc0 hc1
            rw [hcc2] at HCn
            have HD1 := Lib.hid (fun w1 => HD.out c1 w1 hc0 hc1)
            obtain ⟨td, htd⟩ : ∃ td, decZ c1 = td := ⟨_, rfl⟩
            rw [htd] at hok
            rw [htd] at HD1
            have HLL := Lib.hid hll
            have FACT := Lib.hid (fun w1 (hw : Ext wr w1) => hw.cell hcell)
            have e1 : IntKind.i64.wrap ((L.size : Int) + 1) = (L.size : Int) + 1 := by unfold IntKind.wrap; simp [IntKind.bits, IntKind.signed]; omega
            have e2 : IntKind.i64.wrap ((N : Int) + ((L.size : Int) + 1)) = (N : Int) + ((L.size : Int) + 1) := by unfold IntKind.wrap; simp [IntKind.bits, IntKind.signed]; omega
            clear hblk h32 hln hcc hcc2 htd hll HNB HOB
            go_wp2_with fail
            rw [HLL.out]
            refine HCn.out.mono ?_
            rintro e w2 ⟨rfl, rfl⟩
            clear hcell
            go_wp2
            refine wp_region_facts (Ext wr) (TS [(66, fIs (.string td))]) (Pers.ext _) (TS.pers _) (Ext.start _) (by kernel_rfl) (by kernel_rfl) (by intro d v c a w h; cases d <;> exact h) ?_
            repeat (refine wpF_val rfl monoQ_end (by rintro _ ⟨⟩; rfl) ?_ (fun w1 hw1 => ?_) (fun K hK => ?_); rotate_left; (focus (have hF := FACT.out w1 hw1; go_simp; first | done | rfl)); go_simp; refine hK _ ?_; clear hK K)
            refine wpF_callF rfl 66 rfl 142 #[.int .i64 c1] (fIs (.string td)) rfl (fun w1 => ?_) (fun w1 hC hN => ?_) (fun v1 hv1 => ?_)
            · go_simp
            · refine (HD1.out w1).mono ?_
              rintro _ w2 ⟨rfl, hb⟩
              exact ⟨_, rfl, hb, rfl⟩
            obtain ⟨_, rfl⟩ := hv1
            repeat (refine wpF_val rfl monoQ_end (by rintro _ ⟨⟩; rfl) ?_ (fun w1 hw1 => ?_) (fun K hK => ?_); rotate_left; (focus (have hF := FACT.out w1 hw1; go_simp; first | done | rfl)); go_simp; refine hK _ ?_; clear hK K)
            refine wpFacts_nil ?_
            intro w3 hb3 _
            have hcell3 := FACT.out w3 hb3
            have B3 := Lib.hid (below_step hb.out hb3)
            have O3 := Lib.hid (ho.out.kept hb3)
            clear hb3
            cases hq : ((L.extract 0 j).toList == td.toList) with
            | false =>
              rw [hq] at hok
              have HRt := Lib.hid (HFin.out done N (ST.out.no CK hok) _ w3 (O3.out.row (by omega)) (below_step B1.out B3.out))
              go_wp2
              go_ret2
              exact HRt.out
            | true =>
              rw [hq] at hok
              have STN := Lib.hid (STY.out hok)
              have OL := Lib.hid (O3.out.al (.cells #[.string l] 9))
              have B4 := Lib.hid (B3.out.alloc (B3.out.size) (.cells #[.string l] 9))
              have CS : Hid ((w3.alloc (.cells #[.string l] 9)).cell? ⟨w3.heap.size, 0, none⟩ = some (.string l)) := Lib.hid ((OwnZ.lit1 w3 w1.heap.size (B3.out.size) l).cellAt 0 (by simp))
              have H1 : Hid (done.length ≤ 1048576) := Lib.hid (by omega)
              have CBK : Hid (∀ w', Below w1.heap.size w1 w' → w'.cell? ⟨b, off + k, none⟩ = some (.string L)) := Lib.hid (fun w' hw => (hw.cell (p := ⟨b, off + k, none⟩) (cell_lt HC0.out)).trans HC0.out)
              go_wp2_with (first | (at_builtin; refine wpList_appZ rfl _ _ rfl w1.heap.size _ done rfl OL.out w3.heap.size 1 l rfl CS.out H1.out (B4.out.size) ?_; intro v' w' hO' hB'; have hcell5 := CBK.out w' (B4.out.trans hB')))
              have B5 := Lib.hid (B4.out.trans hB')
              have O5 := Lib.hid hO'
              clear hO' hB'
              go_wp2
              go_roundw
              case rel => exact ⟨_, k + 1, N + (L.size + 1), c1, _, rfl, rfl, by go_num, by go_num, by omega, hc0, hc1, STN, O5, B5⟩
              case measure => simp [intOf]; omega
          · have q1 : (byteAt L j == 32) = false := by simp [h32]
            have HA3 : Hid (∀ i, i < j + 1 → byteAt L i ≠ 32) := Lib.hid (fun i hi => by
              by_cases e : i = j
              · rw [e]; exact h32
              · exact hnn.out i (by omega))
            clear h32
            go_wp2
            go_round
            case rel => exact ⟨j + 1, by omega, by go_num, HA3⟩
            case measure => simp [intOf]; omega
        · have e : j = L.size := by omega
          have HRt := Lib.hid (HBR.out (HNB.out (fun i hi => hnn.out i (by omega))))
          subst e
          have qe : ((L.size : Int) == (L.size : Int)) = true := by simp
          clear HNB HOB
          go_wp2
          go_ret2
          exact HRt.out
    · have e : k = n := by omega
      have HRt := Lib.hid (HFin.out done N (RcSt.nil CK (by
        have := hst.out
        rw [List.drop_of_length_le (by have := HN.out; omega)] at this
        exact this)) u6 wr (ho.out.row (by have := hst.out.len; have := hst.out.bd; omega)) (below_step B1.out hb.out))
      clear hst
      go_wp2
      go_ret2
      exact HRt.out
theorem specRecover_any (t : ByteArray) (w : World) : Calls Tryd.prog 44 #[.string t] w (RcB t w) := by
  by_cases h16 : t.size ≤ 16000
  · have hd : decide (16000 < (t.size : Int)) = false := decide_eq_false (by omega)
    have HS := Lib.hid (specRc_any t w h16)
    have HF : Hid (∀ v w', ZRow w' v (rcv CK (linP t) 0).1 → Below w.heap.size w w' → RcB t w (.returned (.tuple #[v, .int .i64 ((rcv CK (linP t) 0).2 : Nat), .bool true])) w') := Lib.hid (fun v w' hr hb => by
      obtain ⟨e1, e2, e3⟩ := rc_yes h16 (show rcv CK (linP t) 0 = ((rcv CK (linP t) 0).1, (rcv CK (linP t) 0).2) from rfl)
      exact ⟨v, by rw [e1, e3], by rw [e2]; exact hr, hb⟩)
    unfold RcQ at HS
    generalize rcv CK (linP t) 0 = q at *
    go_enter Tryd.func44, Tryd.ntmps44
    go_wp2_with fail
    refine HS.out.mono ?_
    rintro e w1 ⟨v, rfl, hr, hb⟩
    have HX := Lib.hid (HF.out v w1 hr hb)
    clear hr hb
    go_wp2
    go_ret3
    exact HX.out
  · have hd : decide (16000 < (t.size : Int)) = true := decide_eq_true (by omega)
    have HX : Hid (RcB t w (.returned (.tuple #[.slice none 0 0, .int .i64 0, .bool false])) w) := Lib.hid (by
      obtain ⟨e1, e2, e3⟩ := rc_no h16
      exact ⟨_, by rw [e1, e3], by rw [e2]; exact .inl ⟨⟨_, _, rfl⟩, rfl⟩, Below.refl _ _⟩)
    go_enter Tryd.func44, Tryd.ntmps44
    go_wp2
    go_ret3
    exact HX.out
end Go.Proofs.YtncjkhdnpioinaaDoor
