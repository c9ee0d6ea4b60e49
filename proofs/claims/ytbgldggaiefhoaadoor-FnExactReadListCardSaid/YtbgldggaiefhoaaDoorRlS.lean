/- Lists of integers read from a text: the specification. -/
import Derived.Test.YtbgldggaiefhoaaDoorRlM
import Derived.Test.YtbgldggaiefhoaaDoorRdS
import Derived.Test.YtbgldggaiefhoaaDoorCutW
import Derived.Test.YtbgldggaiefhoaaDoorJRow
namespace Go.Proofs.YtbgldggaiefhoaaDoor
open Go.RowKit
set_option linter.unusedVariables false

theorem wpList_appJK {ops : Array Oper} {rest : List Oper} {o : Oper} {a : Act} {Q : Exit → Act → World → Prop} {w : World} (hgd : o.guard = none) (s x : Operand)
    (ho : o.op = .call { callee := .builtin .append, args := #[s, x], argTypes := #[49, 49] })
    (base : Nat) (v : Value) (zs : List Int) (hs : a.eval s = v) (hown : OwnJ w base v zs) (q c : Nat) (z : Int) (hx : a.eval x = .slice (some ⟨q, 0, none⟩) 1 c) (hq : w.cell? ⟨q, 0, none⟩ = some (.int .i64 z))
    (hk : zs.length ≤ 1048576) (hbase : base ≤ w.heap.size)
    (h : ∀ v' w', OwnJ w' base v' (zs ++ [z]) → Below base w w' → (∀ (b : Nat) (c : Array Value) f, w.heap[b]? = some (Obj.cells c 9 f) → w'.heap[b]? = w.heap[b]?) → wpList Tryd.prog ops Q rest (a.put o.dst v') w') : wpList Tryd.prog ops Q (o :: rest) a w := by
  obtain ⟨i, hi, hz, hsz, hby⟩ := infoJ
  have hm : maxLen = 9223372036854775807 := rfl
  refine wpList_append_own w hgd s x _ ho base 2 i (.int .i64 0) 1 8 Tryd.underlying49 hi hz hsz hby rfl (by decide) v zs.length (flj zs) hs hown ⟨q, 0, none⟩ 1 c [.int .i64 z] hx rfl (fun j u hj => ?_) (fun u hu => ?_) (by omega) (by omega) hbase (fun v' w' h1 h2 _ => ?_)
  · cases j with
    | zero => simp at hj; subst hj; simpa [Addr.add] using hq
    | succ j => simp at hj
  · simp at hu; subst hu; rfl
  · refine h v' w' ?_ ((Below.refl base w).grown h2 hbase (fun k hk => (World.ownsRow.lt hown k hk).1)) ?_
    · unfold OwnJ
      simpa [flj] using h1
    · intro b c f hb
      refine h2.block b (Array.getElem?_eq_some_iff.1 hb).1 ?_
      obtain ⟨_, h4⟩ := hown
      rcases h4 with ⟨rfl, _⟩ | ⟨g, cap, cur, rfl, _, hc, _⟩
      · simp [Value.ownBlock]
      · intro e
        have : b = g := by simpa [Value.ownBlock] using e
        subst this
        rw [hc] at hb
        simp at hb
theorem take_map_snoc {ps : List ByteArray} {k : Nat} (h : k < ps.length) : (ps.take (k + 1)).map rdV = (ps.take k).map rdV ++ [rdV (ps.getD k ⟨#[]⟩)] := by
  rw [List.take_add_one, List.getElem?_eq_getElem h, List.map_append, List.getD_eq_getElem?_getD, List.getElem?_eq_getElem h]
  rfl
def RlB (s : ByteArray) (w : World) (e : Ending) (w' : World) : Prop := ∃ v, e = .returned (.tuple #[v, .bool (rlOk s)]) ∧ JRow w' v (rlL s) ∧ Below w.heap.size w w'

set_option maxHeartbeats 1600000 in
set_option maxRecDepth 4000 in
theorem specRl_any (s : ByteArray) (w : World) (hs : s.size ≤ 1048576) : Calls Tryd.prog 62 #[.string s] w (RlB s w) := by
  have Bw := Lib.hid (below_al1 w (.cells #[] 2))
  have O0 := Lib.hid (OwnJ.empty w w.heap.size (Nat.le_refl _))
  cases hn : isNone s with
  | true =>
    have HP : Hid (∀ v w', JRow w' v [] → Below w.heap.size w w' → RlB s w (.returned (.tuple #[v, .bool true])) w') := Lib.hid (fun v w' hr hb => ⟨v, by rw [(rl_none hn).1], by rw [(rl_none hn).2]; exact hr, hb⟩)
    have q : (s.toList == [110, 111, 110, 101]) = true := hn
    clear hn
    go_enter Tryd.func62, Tryd.ntmps62
    go_wp2
    go_ret2
    exact HP.out _ _ (O0.out.row (by simp)) Bw.out
  | false =>
    have q : (s.toList == [110, 111, 110, 101]) = false := hn
    obtain ⟨ps, hps⟩ : ∃ ps, cutZ 44 s = ps := ⟨_, rfl⟩
    have HC := Lib.hid (fun w1 => specCut_any s 44 44 rfl w1 hs)
    have HL := Lib.hid (show ps.length ≤ s.size + 1 by rw [← hps]; exact cutZ_le 44 s)
    rw [hps] at HC
    by_cases hm : ps.length ≤ 64
    · have HG : Hid ((∀ k, k < ps.length → rdOk (ps.getD k ⟨#[]⟩) = true) → ∀ v w', JRow w' v (ps.map rdV) → Below w.heap.size w w' → RlB s w (.returned (.tuple #[v, .bool true])) w') := Lib.hid (fun ha v w' hr hb => by
        have e := rl_good hn (by rw [hps]; exact hm) (by rw [hps]; exact ha)
        exact ⟨v, by rw [e.1], by rw [e.2, hps]; exact hr, hb⟩)
      have HB : Hid (∀ k, k < ps.length → rdOk (ps.getD k ⟨#[]⟩) = false → ∀ v w', JRow w' v [] → Below w.heap.size w w' → RlB s w (.returned (.tuple #[v, .bool false])) w') := Lib.hid (fun k hk ha v w' hr hb => by
        have e := rl_bad hn (k := k) (by rw [hps]; exact hk) (by rw [hps]; exact ha)
        exact ⟨v, by rw [e.1], by rw [e.2]; exact hr, hb⟩)
      have HV := Lib.hid (fun x w1 => show Calls Tryd.prog 58 #[.string x] w1 (RdB x w1) from
        if h : 1 ≤ x.size ∧ x.size ≤ 17 then specRd_in x w1 h.1 h.2 else specRd_out x w1 h)
      have h1 : 1 ≤ ps.length := by
        have := cutZ_length 44 s
        rw [hps] at this; omega
      clear hn hps
      go_enter Tryd.func62, Tryd.ntmps62
      go_wp2_with fail
      refine (HC.out _).mono ?_
      rintro e w1 ⟨v, rfl, hz, hb⟩
      have h0 := hz
      obtain ⟨_, h0⟩ := h0
      rcases h0 with ⟨_, h0⟩ | ⟨gp, cap, cur, rfl, _, hblk, _, _, _, _⟩
      · exact absurd h0 (by omega)
      have HPC : Hid (∀ wr : World, wr.heap[gp]? = some (.cells cur 9 (0, 0)) → ∀ k, k < ps.length → wr.cell? ⟨gp, k, none⟩ = some (.string (ps.getD k ⟨#[]⟩))) := Lib.hid (fun wr he k hk => by
        rw [World.cell?_of_block (w := w1) (w' := wr) (a := ⟨gp, k, none⟩) (by rw [he, hblk])]
        exact hz.cellAt k hk)
      have P0 := Lib.hid hblk
      have O1 := Lib.hid (O0.out.kept hb)
      have B1 := Lib.hid (below_step Bw.out hb)
      have HM := Lib.hid hm
      clear hz hb hblk
      obtain ⟨n, hnn⟩ : ∃ n, ps.length = n := ⟨_, rfl⟩
      have HN := Lib.hid hnn
      rw [hnn] at hm h1 ⊢
      clear hnn
      go_wp2
      go_loopw [4, 6, 7, 8] (fun out i x y wr => ∃ (v0 : Value) (k : Nat), out = v0 ∧ i = .int .i64 k ∧ k ≤ n ∧ Hid (∀ j, j < k → rdOk (ps.getD j ⟨#[]⟩) = true) ∧ Hid (wr.heap[gp]? = some (.cells cur 9 (0, 0))) ∧ Hid (OwnJ wr w.heap.size v0 ((ps.take k).map rdV)) ∧ Hid (Below w.heap.size w wr)) (fun _ i _ _ _ => n - (intOf i).toNat)
      case atStart => exact ⟨_, 0, rfl, rfl, Nat.zero_le _, Lib.hid (fun j h => by omega), P0, O1, B1⟩
      case round =>
        obtain ⟨v0, k, rfl, rfl, hk, ha, hp, ho, hb⟩ := hrel
        by_cases hlt : k < n
        · have hcell := HPC.out wr hp.out k (by have := HN.out; omega)
          obtain ⟨x, hx⟩ : ∃ x, ps.getD k ⟨#[]⟩ = x := ⟨_, rfl⟩
          rw [hx] at hcell
          have HX := Lib.hid hx
          clear hx
          go_wp2_with fail
          refine (HV.out x _).mono ?_
          rintro e w2 ⟨rfl, hb2⟩
          have hp2 : w2.heap[gp]? = some (.cells cur 9 (0, 0)) := (hb2.block gp (Array.getElem?_eq_some_iff.1 hp.out).1).trans hp.out
          have P2 := Lib.hid hp2
          have O2 := Lib.hid (ho.out.kept hb2)
          have B2 := Lib.hid (below_step hb.out hb2)
          clear hb2 hp2 hcell
          obtain ⟨y, hy⟩ : ∃ y, rdV x = y := ⟨_, rfl⟩
          have HY := Lib.hid hy
          rw [hy]
          clear hy
          cases hr : rdOk x with
          | false =>
            have HR := Lib.hid (HB.out k (by have := HN.out; omega) (by rw [HX.out]; exact hr))
            clear hr
            go_wp2
            go_ret2
            exact HR.out _ _ (.inl ⟨⟨_, _, rfl⟩, rfl⟩) B2.out
          | true =>
            have OL := Lib.hid (O2.out.al (.cells #[.int .i64 y] 2))
            have B3 := Lib.hid (B2.out.alloc (B2.out.size) (.cells #[.int .i64 y] 2))
            have P3 : Hid ((w2.alloc (.cells #[.int .i64 y] 2)).heap[gp]? = some (.cells cur 9 (0, 0))) := Lib.hid (((below_al1 w2 (.cells #[.int .i64 y] 2)).block gp (Array.getElem?_eq_some_iff.1 P2.out).1).trans P2.out)
            have CS : Hid ((w2.alloc (.cells #[.int .i64 y] 2)).cell? ⟨w2.heap.size, 0, none⟩ = some (.int .i64 y)) := Lib.hid ((World.cell?_alloc_at _ _ _ _ (by simp)).trans rfl)
            have HA : Hid (∀ j, j < k + 1 → rdOk (ps.getD j ⟨#[]⟩) = true) := Lib.hid (fun j hj => by
              by_cases e : j = k
              · rw [e, HX.out]; exact hr
              · exact ha.out j (by omega))
            have HT : Hid ((ps.take (k + 1)).map rdV = (ps.take k).map rdV ++ [y]) := Lib.hid (by rw [take_map_snoc (by have := HN.out; omega), HX.out, HY.out])
            have HLn : Hid (((ps.take k).map rdV).length ≤ 1048576) := Lib.hid (by simp; omega)
            clear hr
            go_wp2_with (at_builtin; go_loud (refine wpList_appJK rfl _ _ rfl w.heap.size _ _ rfl OL.out w2.heap.size 1 y rfl CS.out HLn.out (B3.out.size) ?_); intro v' w' hO' hB' hK')
            have B4 := Lib.hid (B3.out.trans hB')
            have O4 := Lib.hid hO'
            have P4 := Lib.hid ((hK' _ _ _ P3.out).trans P3.out)
            clear hO' hB' hK'
            rw [← HT.out] at O4
            go_wp2
            refine ⟨⟨_, k + 1, rfl, by go_num, by omega, HA, P4, O4, B4⟩, ?_⟩
            simp [intOf]; omega
        · have e : k = n := by omega
          have HE := Lib.hid (HG.out (fun j hj => ha.out j (by have := HN.out; omega)))
          have HO : Hid (JRow wr u4 (ps.map rdV)) := Lib.hid (by
            have h := ho.out
            rw [List.take_of_length_le (by have := HN.out; omega)] at h
            exact h.row (by have := HM.out; simp; omega))
          clear ha
          go_wp2
          go_ret2
          exact HE.out _ _ HO.out hb.out
    · have HB : Hid (∀ v w', JRow w' v [] → Below w.heap.size w w' → RlB s w (.returned (.tuple #[v, .bool false])) w') := Lib.hid (fun v w' hr hb => by
        have e := rl_many hn (by rw [hps]; exact hm)
        exact ⟨v, by rw [e.1], by rw [e.2]; exact hr, hb⟩)
      have hd : decide (64 < (ps.length : Int)) = true := decide_eq_true (by omega)
      clear hn hps
      go_enter Tryd.func62, Tryd.ntmps62
      go_wp2_with fail
      refine (HC.out _).mono ?_
      rintro e w1 ⟨v, rfl, hz, hb⟩
      obtain ⟨g, cap, rfl⟩ := hz.openS (by omega)
      have B1 := Lib.hid (below_step Bw.out hb)
      clear hz hb
      go_wp2
      go_ret2
      exact HB.out _ _ (.inl ⟨⟨_, _, rfl⟩, rfl⟩) B1.out
theorem specReadList_any (s : ByteArray) (w : World) (hs : s.size ≤ 1048576) : Calls Tryd.prog 27 #[.string s] w (RlB s w) := by
  have HC := Lib.hid (specRl_any s w hs)
  go_enter Tryd.func27, Tryd.ntmps27
  go_wp2_with fail
  refine HC.out.mono ?_
  rintro e w1 ⟨v, rfl, hr, hb⟩
  have H := Lib.hid (show JRow w1 v (rlL s) ∧ Below w.heap.size w w1 from ⟨hr, hb⟩)
  clear hr hb
  go_wp2
  go_ret2
  exact ⟨_, rfl, H.out.1, H.out.2⟩
end Go.Proofs.YtbgldggaiefhoaaDoor
