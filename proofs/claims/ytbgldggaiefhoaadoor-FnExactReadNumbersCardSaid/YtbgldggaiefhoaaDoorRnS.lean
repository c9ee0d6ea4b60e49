/- Numbers read from a text: the specification. -/
import Derived.Test.YtbgldggaiefhoaaDoorRnM
import Derived.Test.YtbgldggaiefhoaaDoorCutW
import Derived.Test.YtbgldggaiefhoaaDoorAppB
namespace Go.Proofs.YtbgldggaiefhoaaDoor
open Go.RowKit
set_option linter.unusedVariables false

theorem wpList_app32K {ops : Array Oper} {rest : List Oper} {o : Oper} {a : Act} {Q : Exit → Act → World → Prop} {w : World} (hgd : o.guard = none) (s x : Operand)
    (ho : o.op = .call { callee := .builtin .append, args := #[s, x], argTypes := #[30, 30] })
    (base : Nat) (v : Value) (zs : List Nat) (hs : a.eval s = v) (hown : Own w base v zs) (q c : Nat) (z : Nat) (hx : a.eval x = .slice (some ⟨q, 0, none⟩) 1 c) (hq : w.cell? ⟨q, 0, none⟩ = some (.float .f32 z))
    (hk : zs.length ≤ 1048576) (hbase : base ≤ w.heap.size)
    (h : ∀ v' w', Own w' base v' (zs ++ [z]) → Below base w w' → (∀ (b : Nat) (c : Array Value) f, w.heap[b]? = some (Obj.cells c 9 f) → w'.heap[b]? = w.heap[b]?) → wpList Tryd.prog ops Q rest (a.put o.dst v') w') : wpList Tryd.prog ops Q (o :: rest) a w := by
  obtain ⟨i, hi, hz, hsz, hby⟩ := info32
  have hm : maxLen = 9223372036854775807 := rfl
  refine wpList_append_own w hgd s x _ ho base 54 i (.float .f32 0) 1 4 Tryd.underlying30 hi hz hsz hby rfl (by decide) v zs.length (fl zs) hs hown ⟨q, 0, none⟩ 1 c [.float .f32 z] hx rfl (fun j u hj => ?_) (fun u hu => ?_) (by omega) (by omega) hbase (fun v' w' h1 h2 _ => ?_)
  · cases j with
    | zero => simp at hj; subst hj; simpa [Addr.add] using hq
    | succ j => simp at hj
  · simp at hu; subst hu; rfl
  · refine h v' w' ?_ ((Below.refl base w).grown h2 hbase (fun k hk => (World.ownsRow.lt hown k hk).1)) ?_
    · unfold Own
      simpa [fl] using h1
    · intro b c f hb
      refine h2.block b (Array.getElem?_eq_some_iff.1 hb).1 ?_
      obtain ⟨_, h4⟩ := hown
      rcases h4 with ⟨rfl, _⟩ | ⟨g, cap, cur, rfl, _, hc, _⟩
      · simp [Value.ownBlock]
      · intro e
        have : b = g := by simpa [Value.ownBlock] using e
        subst this
        rw [hc] at hb
        simp at hb
theorem take_map_snocN {ps : List ByteArray} {k : Nat} (h : k < ps.length) : (ps.take (k + 1)).map rnV = (ps.take k).map rnV ++ [rnV (ps.getD k ⟨#[]⟩)] := by
  rw [List.take_add_one, List.getElem?_eq_getElem h, List.map_append, List.getD_eq_getElem?_getD, List.getElem?_eq_getElem h]
  rfl
/-- whether a text is that of a list of numbers, and the list -/
def nlOk (s : ByteArray) : Bool := isNone s || (decide ((cutZ 44 s).length ≤ 256) && (cutZ 44 s).all rnOk)
def nlL (s : ByteArray) : List Nat := if isNone s then [] else if nlOk s then (cutZ 44 s).map rnV else []
theorem nl_none {s : ByteArray} (h : isNone s = true) : nlOk s = true ∧ nlL s = [] := by
  unfold nlOk nlL; rw [h]; exact ⟨rfl, rfl⟩
theorem nl_many {s : ByteArray} (h : isNone s = false) (hm : ¬ (cutZ 44 s).length ≤ 256) : nlOk s = false ∧ nlL s = [] := by
  have e : nlOk s = false := by unfold nlOk; rw [h, decide_eq_false hm]; rfl
  exact ⟨e, by unfold nlL; rw [h, e]; rfl⟩
theorem nl_bad {s : ByteArray} (h : isNone s = false) {k : Nat} (hk : k < (cutZ 44 s).length) (hb : rnOk ((cutZ 44 s).getD k ⟨#[]⟩) = false) : nlOk s = false ∧ nlL s = [] := by
  have e : nlOk s = false := by
    unfold nlOk
    have : (cutZ 44 s).all rnOk = false := by
      rw [List.all_eq_false]
      refine ⟨_, List.getElem_mem hk, ?_⟩
      rw [List.getD_eq_getElem?_getD, List.getElem?_eq_getElem hk] at hb
      simpa using hb
    rw [h, this, Bool.and_false]; rfl
  exact ⟨e, by unfold nlL; rw [h, e]; rfl⟩
theorem nl_good {s : ByteArray} (h : isNone s = false) (hm : (cutZ 44 s).length ≤ 256) (ha : ∀ k, k < (cutZ 44 s).length → rnOk ((cutZ 44 s).getD k ⟨#[]⟩) = true) : nlOk s = true ∧ nlL s = (cutZ 44 s).map rnV := by
  have e : nlOk s = true := by
    unfold nlOk
    have : (cutZ 44 s).all rnOk = true := by
      rw [List.all_eq_true]
      intro x hx
      obtain ⟨k, hk, rfl⟩ := List.getElem_of_mem hx
      have := ha k hk
      rw [List.getD_eq_getElem?_getD, List.getElem?_eq_getElem hk] at this
      exact this
    rw [h, this, decide_eq_true hm]; rfl
  exact ⟨e, by unfold nlL; rw [h, e]; rfl⟩
theorem nlL_le (s : ByteArray) : (nlL s).length ≤ 256 := by
  unfold nlL
  split
  · simp
  · split
    · next h1 h2 =>
      unfold nlOk at h2
      rw [show isNone s = false by simpa using h1] at h2
      simp only [Bool.false_or, Bool.and_eq_true, decide_eq_true_eq] at h2
      simpa using h2.1
    · simp
def RnL (s : ByteArray) (w : World) (e : Ending) (w' : World) : Prop := ∃ v, e = .returned (.tuple #[v, .bool (nlOk s)]) ∧ FRow w' v (nlL s) ∧ Below w.heap.size w w'

set_option maxHeartbeats 1600000 in
set_option maxRecDepth 4000 in
theorem specNl_any (s : ByteArray) (w : World) (hs : s.size ≤ 1048576) : Calls Tryd.prog 54 #[.string s] w (RnL s w) := by
  have Bw := Lib.hid (below_al1 w (.cells #[] 54))
  have O0 := Lib.hid (Own.empty w w.heap.size (Nat.le_refl _))
  cases hn : isNone s with
  | true =>
    have HP : Hid (∀ v w', FRow w' v [] → Below w.heap.size w w' → RnL s w (.returned (.tuple #[v, .bool true])) w') := Lib.hid (fun v w' hr hb => ⟨v, by rw [(nl_none hn).1], by rw [(nl_none hn).2]; exact hr, hb⟩)
    have q : (s.toList == [110, 111, 110, 101]) = true := hn
    clear hn
    go_enter Tryd.func54, Tryd.ntmps54
    go_wp2
    go_ret2
    exact HP.out _ _ (O0.out.row (by simp)) Bw.out
  | false =>
    have q : (s.toList == [110, 111, 110, 101]) = false := hn
    obtain ⟨ps, hps⟩ : ∃ ps, cutZ 44 s = ps := ⟨_, rfl⟩
    have HC := Lib.hid (fun w1 => specCut_any s 44 44 rfl w1 hs)
    have HL := Lib.hid (show ps.length ≤ s.size + 1 by rw [← hps]; exact cutZ_le 44 s)
    rw [hps] at HC
    by_cases hm : ps.length ≤ 256
    · have HG : Hid ((∀ k, k < ps.length → rnOk (ps.getD k ⟨#[]⟩) = true) → ∀ v w', FRow w' v (ps.map rnV) → Below w.heap.size w w' → RnL s w (.returned (.tuple #[v, .bool true])) w') := Lib.hid (fun ha v w' hr hb => by
        have e := nl_good hn (by rw [hps]; exact hm) (by rw [hps]; exact ha)
        exact ⟨v, by rw [e.1], by rw [e.2, hps]; exact hr, hb⟩)
      have HB : Hid (∀ k, k < ps.length → rnOk (ps.getD k ⟨#[]⟩) = false → ∀ v w', FRow w' v [] → Below w.heap.size w w' → RnL s w (.returned (.tuple #[v, .bool false])) w') := Lib.hid (fun k hk ha v w' hr hb => by
        have e := nl_bad hn (k := k) (by rw [hps]; exact hk) (by rw [hps]; exact ha)
        exact ⟨v, by rw [e.1], by rw [e.2]; exact hr, hb⟩)
      have h1 : 1 ≤ ps.length := by
        have := cutZ_length 44 s
        rw [hps] at this; omega
      clear hn hps
      go_enter Tryd.func54, Tryd.ntmps54
      go_wp2_with fail
      refine (HC.out _).mono ?_
      rintro e w1 ⟨v, rfl, hz, hb⟩
      have h0 := hz
      obtain ⟨_, h0⟩ := h0
      rcases h0 with ⟨_, h0⟩ | ⟨gp, cap, cur, rfl, _, hblk, _, _, _, _⟩
      · exact absurd h0 (by omega)
      have HPC : Hid (∀ wr : World, wr.heap[gp]? = some (.cells cur 9 (0, 0)) → ∀ k, k < ps.length → wr.cell? ⟨gp, k, none⟩ = some (.string (ps.getD k ⟨#[]⟩))) := Lib.hid (fun wr he k hk => by
        rw [World.cell?_of_block (w := w1) (w' := wr) (a := ⟨gp, k, none⟩) (by rw [he, hblk])]
        exact hz.cellAt k hk)
      have P0 := Lib.hid hblk
      have O1 := Lib.hid (O0.out.kept hb)
      have B1 := Lib.hid (below_step Bw.out hb)
      have HM := Lib.hid hm
      clear hz hb hblk
      obtain ⟨n, hnn⟩ : ∃ n, ps.length = n := ⟨_, rfl⟩
      have HN := Lib.hid hnn
      rw [hnn] at hm h1 ⊢
      clear hnn
      go_wp2
      go_loopw [4, 6, 7, 8, 9, 10, 11] (fun out i _ _ _ _ _ wr => ∃ (v0 : Value) (k : Nat), out = v0 ∧ i = .int .i64 k ∧ k ≤ n ∧ Hid (∀ j, j < k → rnOk (ps.getD j ⟨#[]⟩) = true) ∧ Hid (wr.heap[gp]? = some (.cells cur 9 (0, 0))) ∧ Hid (Own wr w.heap.size v0 ((ps.take k).map rnV)) ∧ Hid (Below w.heap.size w wr)) (fun _ i _ _ _ _ _ _ => n - (intOf i).toNat)
      case atStart => exact ⟨_, 0, rfl, rfl, Nat.zero_le _, Lib.hid (fun j h => by omega), P0, O1, B1⟩
      case round =>
        obtain ⟨v0, k, rfl, rfl, hk, ha, hp, ho, hb⟩ := hrel
        by_cases hlt : k < n
        · have hcell := HPC.out wr hp.out k (by have := HN.out; omega)
          obtain ⟨x, hx⟩ : ∃ x, ps.getD k ⟨#[]⟩ = x := ⟨_, rfl⟩
          rw [hx] at hcell
          have HX := Lib.hid hx
          clear hx
          by_cases h8 : x.size = 8
          · have hd8 : ((x.size : Int) != 8) = false := by simp [h8]
            have hd9 : ((x.size : Int) == 8) = true := by simp [h8]
            go_wp2
            go_loop [7, 8, 9, 10] (fun n k _ _ => ∃ j : Nat, j ≤ 8 ∧ k = .int .i64 j ∧ n = .int .i64 (hxv x j) ∧ Hid (∀ i, i < j → 0 ≤ hxd (byteAt x i))) (fun _ k _ _ => 8 - (intOf k).toNat)
            case atStart => exact ⟨0, Nat.zero_le _, rfl, rfl, Lib.hid (fun j h => by omega)⟩
            case round =>
              obtain ⟨j, hj, rfl, rfl, hall⟩ := hrel
              have hvb := hxv_lt x (k := j) hj hall.out
              by_cases hjl : j < 8
              · have hxs : j < x.size := by omega
                have hbe := byteAt_eq x j hxs
                obtain ⟨b0, b1⟩ := byteAt_bd x j
                have hdl := hxd_le (byteAt x j)
                have HS0 : Hid (hxv x (j + 1) = 16 * hxv x j + hxd (byteAt x j)) := Lib.hid rfl
                have HNO : Hid (hxd (byteAt x j) < 0 → RnL s w (.returned (.tuple #[.slice none 0 0, .bool false])) wr) := Lib.hid (fun h => HB.out k (by have := HN.out; omega) (by rw [HX.out]; exact rn_dig hjl h) _ _ (.inl ⟨⟨_, _, rfl⟩, rfl⟩) hb.out)
                obtain ⟨c, hcc⟩ : ∃ c, byteAt x j = c := ⟨_, rfl⟩
                have HA2 : Hid (0 ≤ hxd c → ∀ i, i < j + 1 → 0 ≤ hxd (byteAt x i)) := Lib.hid (fun h i hi => by
                  by_cases e : i = j
                  · rw [e, hcc]; exact h
                  · exact hall.out i (by omega))
                obtain ⟨n0, hnn⟩ : ∃ n0, hxv x j = n0 := ⟨_, rfl⟩
                rw [hcc, hnn] at HS0
                rw [hcc] at hbe b0 b1 hdl HNO
                rw [hnn] at hvb ⊢
                clear hcc hnn
                by_cases g1 : 48 ≤ c
                · have c1 : decide (48 ≤ c) = true := decide_eq_true g1
                  by_cases g2 : c ≤ 57
                  · have c2 : decide (c ≤ 57) = true := decide_eq_true g2
                    have c3 : decide (97 ≤ c) = false := decide_eq_false (by omega)
                    have d0 : decide (c - 48 < 0) = false := decide_eq_false (by omega)
                    have hg : hxd c = c - 48 := hxd_dig (by omega) (by omega)
                    have e1 : IntKind.u8.wrap (c - 48) = c - 48 := by unfold IntKind.wrap; simp [IntKind.bits, IntKind.signed]; omega
                    have e2 : IntKind.i64.wrap (c - 48) = c - 48 := by unfold IntKind.wrap; simp [IntKind.bits, IntKind.signed]; omega
                    have HA3 := Lib.hid (HA2.out (by rw [hg]; omega))
                    have HS : Hid (hxv x (j + 1) = 16 * n0 + (c - 48)) := Lib.hid (by rw [HS0.out, hg])
                    have e7 : IntKind.i64.wrap (16 * n0) = 16 * n0 := by unfold IntKind.wrap; simp [IntKind.bits, IntKind.signed]; omega
                    have e8 : IntKind.i64.wrap (16 * n0 + (c - 48)) = 16 * n0 + (c - 48) := by unfold IntKind.wrap; simp [IntKind.bits, IntKind.signed]; omega
                    clear hg HS0 HA2 HNO
                    go_wp2
                    go_round
                    case rel => exact ⟨j + 1, by omega, by go_num, by rw [HS.out], HA3⟩
                    case measure => simp [intOf]; omega
                  · have c2 : decide (c ≤ 57) = false := decide_eq_false g2
                    by_cases g3 : 97 ≤ c
                    · have c3 : decide (97 ≤ c) = true := decide_eq_true g3
                      by_cases g4 : c ≤ 102
                      · have c4 : decide (c ≤ 102) = true := decide_eq_true g4
                        have d0 : decide (c - 97 + 10 < 0) = false := decide_eq_false (by omega)
                        have hg : hxd c = c - 87 := hxd_low (by omega) (by omega)
                        have e1 : IntKind.u8.wrap (c - 97) = c - 97 := by unfold IntKind.wrap; simp [IntKind.bits, IntKind.signed]; omega
                        have e2 : IntKind.i64.wrap (c - 97) = c - 97 := by unfold IntKind.wrap; simp [IntKind.bits, IntKind.signed]; omega
                        have e3 : IntKind.i64.wrap (c - 97 + 10) = c - 97 + 10 := by unfold IntKind.wrap; simp [IntKind.bits, IntKind.signed]; omega
                        have HA3 := Lib.hid (HA2.out (by rw [hg]; omega))
                        have HS : Hid (hxv x (j + 1) = 16 * n0 + (c - 97 + 10)) := Lib.hid (by rw [HS0.out, hg]; omega)
                        have e7 : IntKind.i64.wrap (16 * n0) = 16 * n0 := by unfold IntKind.wrap; simp [IntKind.bits, IntKind.signed]; omega
                        have e8 : IntKind.i64.wrap (16 * n0 + (c - 97 + 10)) = 16 * n0 + (c - 97 + 10) := by unfold IntKind.wrap; simp [IntKind.bits, IntKind.signed]; omega
                        clear hg HS0 HA2 HNO
                        go_wp2
                        go_round
                        case rel => exact ⟨j + 1, by omega, by go_num, by rw [HS.out], HA3⟩
                        case measure => simp [intOf]; omega
                      · have c4 : decide (c ≤ 102) = false := decide_eq_false g4
                        have HR := Lib.hid (HNO.out (by rw [hxd_no (by omega) (by omega)]; decide))
                        clear HS0 HA2 HNO
                        go_wp2
                        go_ret2
                        exact HR.out
                    · have c3 : decide (97 ≤ c) = false := decide_eq_false g3
                      have HR := Lib.hid (HNO.out (by rw [hxd_no (by omega) (by omega)]; decide))
                      clear HS0 HA2 HNO
                      go_wp2
                      go_ret2
                      exact HR.out
                · have c1 : decide (48 ≤ c) = false := decide_eq_false g1
                  have c3 : decide (97 ≤ c) = false := decide_eq_false (by omega)
                  have HR := Lib.hid (HNO.out (by rw [hxd_no (by omega) (by omega)]; decide))
                  clear HS0 HA2 HNO
                  go_wp2
                  go_ret2
                  exact HR.out
              · have e : j = 8 := by omega
                subst e
                have HFR := Lib.hid (fun w1 => specFr_any (hxv x 8) w1 hvb.1 hvb.2)
                have HBT := Lib.hid (fun w1 => specHb_any (hxv x 8).toNat w1 (wf_of hvb.1 hvb.2))
                by_cases hq : (hbit (hxv x 8).toNat : Int) = hxv x 8
                · have y := rn_yes h8 hall.out hq
                  have HY := Lib.hid y
                  clear y
                  obtain ⟨n, hnn⟩ : ∃ n, hxv x 8 = n := ⟨_, rfl⟩
                  rw [hnn] at hq HFR HBT HY hvb ⊢
                  obtain ⟨t, htt⟩ : ∃ t : Nat, n.toNat = t := ⟨_, rfl⟩
                  rw [htt] at hq HFR HBT HY
                  obtain ⟨u, huu⟩ : ∃ u : Nat, hbit t = u := ⟨_, rfl⟩
                  rw [huu] at HBT hq
                  have q1 : ((u : Int) == n) = true := by simp [hq]
                  have q2 : ((u : Int) != n) = false := by simp [hq]
                  have OL := Lib.hid (ho.out.al (.cells #[.float .f32 t] 54))
                  have B3 := Lib.hid (hb.out.alloc (hb.out.size) (.cells #[.float .f32 t] 54))
                  have P3 : Hid ((wr.alloc (.cells #[.float .f32 t] 54)).heap[gp]? = some (.cells cur 9 (0, 0))) := Lib.hid (((below_al1 wr (.cells #[.float .f32 t] 54)).block gp (Array.getElem?_eq_some_iff.1 hp.out).1).trans hp.out)
                  have CS : Hid ((wr.alloc (.cells #[.float .f32 t] 54)).cell? ⟨wr.heap.size, 0, none⟩ = some (.float .f32 t)) := Lib.hid ((World.cell?_alloc_at _ _ _ _ (by simp)).trans rfl)
                  have HA : Hid (∀ j, j < k + 1 → rnOk (ps.getD j ⟨#[]⟩) = true) := Lib.hid (fun j hj => by
                    by_cases e : j = k
                    · rw [e, HX.out]; exact HY.out.1
                    · exact ha.out j (by omega))
                  have HT : Hid ((ps.take (k + 1)).map rnV = (ps.take k).map rnV ++ [t]) := Lib.hid (by rw [take_map_snocN (by have := HN.out; omega), HX.out, HY.out.2])
                  have HLn : Hid (((ps.take k).map rnV).length ≤ 1048576) := Lib.hid (by simp; omega)
                  clear hq hvb hnn htt huu hcell
                  go_wp2_with fail
                  refine (HFR.out _).mono ?_
                  rintro e w1 ⟨rfl, rfl⟩
                  go_wp2_with fail
                  refine (HBT.out _).mono ?_
                  rintro e w1 ⟨rfl, rfl⟩
                  go_wp2_with (at_builtin; refine wpList_app32K rfl _ _ rfl w.heap.size _ _ rfl OL.out _ 1 t rfl CS.out HLn.out (B3.out.size) ?_; intro v' w' hO' hB' hK')
                  have B4 := Lib.hid (B3.out.trans hB')
                  have O4 := Lib.hid hO'
                  have P4 := Lib.hid ((hK' _ _ _ P3.out).trans P3.out)
                  clear hO' hB' hK'
                  rw [← HT.out] at O4
                  go_wp2
                  refine ⟨⟨_, k + 1, rfl, by go_num, by omega, HA, P4, O4, B4⟩, ?_⟩
                  simp [intOf]; omega
                · have HR := Lib.hid (HB.out k (by have := HN.out; omega) (by rw [HX.out]; exact rn_bits hq) _ _ (.inl ⟨⟨none, 0, rfl⟩, rfl⟩) hb.out)
                  obtain ⟨n, hnn⟩ : ∃ n, hxv x 8 = n := ⟨_, rfl⟩
                  rw [hnn] at hq HFR HBT hvb ⊢
                  obtain ⟨t, htt⟩ : ∃ t : Nat, n.toNat = t := ⟨_, rfl⟩
                  rw [htt] at hq HFR HBT
                  obtain ⟨u, huu⟩ : ∃ u : Nat, hbit t = u := ⟨_, rfl⟩
                  rw [huu] at HBT hq
                  have q1 : ((u : Int) == n) = false := by simp [hq]
                  have q2 : ((u : Int) != n) = true := by simp [hq]
                  clear hq hvb hnn htt huu hcell
                  go_wp2_with fail
                  refine (HFR.out _).mono ?_
                  rintro e w1 ⟨rfl, rfl⟩
                  go_wp2_with fail
                  refine (HBT.out _).mono ?_
                  rintro e w1 ⟨rfl, rfl⟩
                  go_wp2
                  go_ret2
                  exact HR.out
          · have hd8 : ((x.size : Int) != 8) = true := by simp; omega
            have hd9 : ((x.size : Int) == 8) = false := by simp; omega
            have HR := Lib.hid (HB.out k (by have := HN.out; omega) (by rw [HX.out]; exact rn_size h8) (.slice none 0 0) wr (.inl ⟨⟨_, _, rfl⟩, rfl⟩) hb.out)
            go_wp2
            go_ret2
            exact HR.out
        · have e : k = n := by omega
          have HE := Lib.hid (HG.out (fun j hj => ha.out j (by have := HN.out; omega)))
          have HO : Hid (FRow wr u4 (ps.map rnV)) := Lib.hid (by
            have h := ho.out
            rw [List.take_of_length_le (by have := HN.out; omega)] at h
            exact h.row (by have := HM.out; simp; omega))
          clear ha
          go_wp2
          go_ret2
          exact HE.out _ _ HO.out hb.out
    · have HB : Hid (∀ v w', FRow w' v [] → Below w.heap.size w w' → RnL s w (.returned (.tuple #[v, .bool false])) w') := Lib.hid (fun v w' hr hb => by
        have e := nl_many hn (by rw [hps]; exact hm)
        exact ⟨v, by rw [e.1], by rw [e.2]; exact hr, hb⟩)
      have hd : decide (256 < (ps.length : Int)) = true := decide_eq_true (by omega)
      clear hn hps
      go_enter Tryd.func54, Tryd.ntmps54
      go_wp2_with fail
      refine (HC.out _).mono ?_
      rintro e w1 ⟨v, rfl, hz, hb⟩
      obtain ⟨g, cap, rfl⟩ := hz.openS (by omega)
      have B1 := Lib.hid (below_step Bw.out hb)
      clear hz hb
      go_wp2
      go_ret2
      exact HB.out _ _ (.inl ⟨⟨_, _, rfl⟩, rfl⟩) B1.out
theorem specReadNumbers_any (s : ByteArray) (w : World) (hs : s.size ≤ 1048576) : Calls Tryd.prog 20 #[.string s] w (RnL s w) := by
  have HC := Lib.hid (specNl_any s w hs)
  go_enter Tryd.func20, Tryd.ntmps20
  go_wp2_with fail
  refine HC.out.mono ?_
  rintro e w1 ⟨v, rfl, hr, hb⟩
  have H := Lib.hid (show FRow w1 v (nlL s) ∧ Below w.heap.size w w1 from ⟨hr, hb⟩)
  clear hr hb
  go_wp2
  go_ret2
  exact ⟨_, rfl, H.out.1, H.out.2⟩
end Go.Proofs.YtbgldggaiefhoaaDoor

