/- Journals recovered: the program. -/
import Derived.Test.YtncjkhdnpioinaaDoorRcP
import Derived.Test.YtncjkhdnpioinaaDoorMaxP
import Derived.Test.YtncjkhdnpioinaaDoorShelf
import Derived.OwnWalk
namespace Go.Proofs.YtncjkhdnpioinaaDoor
open Go.RowKit
set_option linter.unusedVariables false

theorem OwnZ.ozrow {w : World} {base : Nat} {v : Value} {zs : List ByteArray} (h : OwnZ w base v zs) : OZRow base w v zs := h.orow
set_option maxHeartbeats 6400000 in
set_option maxRecDepth 20000 in
theorem implRecover_any (t : ByteArray) (w : World) (hs : t.size ≤ 1048576) (ht : Tabs w) (hM : MaxP w) : Calls Tryd.prog 45 #[.string t] w (RcO t w) := by
  by_cases h16 : t.size ≤ 16000
  · have hd : decide (16000 < (t.size : Int)) = false := decide_eq_false (by omega)
    have HFin : Hid (∀ done (n : Nat), rcv CK (linP t) 0 = (done, n) → ∀ v w', OZRow w.heap.size w' v done → Below w.heap.size w w' → RcO t w (.returned (.tuple #[v, .int .i64 n, .bool true])) w') := Lib.hid (fun done n e v w' hr hb => by
      obtain ⟨e1, e2, e3⟩ := rc_yes h16 e
      exact ⟨v, by rw [e1, e3], by rw [e2]; exact hr, hb⟩)
    have HT := Lib.hid ht
    have HM := Lib.hid hM
    have S0 := Lib.hid (RcT.start t)
    have O0 := Lib.hid (OwnZ.nil w w.heap.size)
    have H16 := Lib.hid h16
    have HE := Lib.hid (fun n (s : ByteArray) w1 h0 h1 hs hT => implEnt_any n s w1 h0 h1 hs hT)
    have HCut := Lib.hid (fun (s : ByteArray) (c : UInt8) m w1 h1 h2 => Tryd.strings_Cut s (mkZ c) m w1 h1 h2)
    have HPre := Lib.hid (fun (s p : ByteArray) w1 => Tryd.strings_CutPrefix s p w1)
    clear ht hM h16
    go_enter Tryd.func45, Tryd.ntmps45
    go_wp2
    go_loopw [5, 6, 7, 8, 9, 10, 11, 12, 13, 14, 15, 16, 17] (fun v s c _ _ _ _ _ _ _ _ _ _ wr => ∃ (v0 : Value) (s0 : ByteArray) (c0 : Int) (done : List ByteArray), v = v0 ∧ s = .string s0 ∧ c = .int .i64 c0 ∧ 0 ≤ c0 ∧ c0 < 65003 ∧ Hid (RcT t done s0 c0) ∧ Hid (OwnZ wr w.heap.size v0 done) ∧ Hid (Below w.heap.size w wr)) (fun _ s _ _ _ _ _ _ _ _ _ _ _ _ => (match s with | .string b => b.size | _ => 0))
    case atStart => exact ⟨_, t, 0, [], rfl, rfl, rfl, by omega, by omega, S0, O0, Lib.hid (Below.refl _ _)⟩
    case round =>
      obtain ⟨v0, s0, c0, done, rfl, rfl, rfl, h0, h1, hst, ho, hb⟩ := hrel
      obtain ⟨f, l, hf, hl, hfs, hls, hcase⟩ := rc_round hst.out h0 h1
      have hsl := hst.out.le
      have h16 := H16.out
      have hdl : done.length ≤ 16000 := by have := hst.out.st.len; omega
      obtain ⟨m, hm⟩ := HM.out.below hb.out
      have C1 := Lib.hid (HCut.out s0 10 m wr (by omega) hm)
      have C2 := Lib.hid (fun q => HCut.out f 32 m (wr.drewN q) (by omega) hm)
      have C3 := Lib.hid (fun q => HE.out c0 l (wr.drewN q) h0 h1 (by omega) ((HT.out.below hb.out).below (below_drewN (Below.refl _ _) q)))
      obtain ⟨hc0, hc1⟩ := CK_bd l h0 h1
      have hcc : chkTo l c0 l.size = CK l c0 := rfl
      rw [hcc] at C3
      obtain ⟨c1, hck⟩ : ∃ c1, CK l c0 = c1 := ⟨_, rfl⟩
      rw [hck] at C3 hcase hc0 hc1
      obtain ⟨E, hE⟩ : ∃ E, entZ c1 l = E := ⟨_, rfl⟩
      rw [hE] at C3 hcase
      have C4 := Lib.hid (fun w1 => HPre.out s0 E w1)
      have P1 : Hid (∀ q r, (.tuple #[.string (cut1 s0 10), q, r] : Value) = .tuple #[.string f, q, r]) := Lib.hid (fun q r => by rw [hf])
      have hf' : (⟨(Lib.cut s0.data.toList (mkZ 10).data.toList).1.toArray⟩ : ByteArray) = f := hf
      have hl' : (⟨(Lib.cut f.data.toList (mkZ 32).data.toList).2.1.toArray⟩ : ByteArray) = l := hl
      rw [hf'] at C1
      rw [hl'] at C2
      have e1 : (t.size : Int) - (s0.size : Int) = ((t.size - s0.size : Nat) : Int) := by omega
      have HE1 := Lib.hid e1
      have HC := Lib.hid hcase
      have HS := Lib.hid hst.out
      clear hcase hf hl hf' hl' hck hE hst hcc hm P1 HM e1
      go_wp2_with fail
      refine C1.out.mono ?_
      rintro e w1 ⟨rfl, q1, rfl⟩
      go_wp2_with fail
      refine (C2.out q1).mono ?_
      rintro e w2 ⟨rfl, q2, rfl⟩
      rw [World.drewN_drewN]
      go_wp2_with fail
      refine (C3.out _).mono ?_
      rintro e w3 ⟨rfl, hb3⟩
      have B3 := Lib.hid (below_step (below_drewN hb.out _) hb3)
      have O3 := Lib.hid ((ho.out.drewN _).kept hb3)
      clear hb3
      rcases HC.out with ⟨hp, hfin⟩ | ⟨hp, s', hs', hlt, hnx⟩
      · have C5 := Lib.hid (C4.out w3)
        rw [hp] at C5
        have HRt := Lib.hid (HFin.out done _ hfin _ w3 O3.out.orow B3.out)
        rw [← HE1.out] at HRt
        clear hp hfin HC
        go_wp2_with fail
        refine C5.out.mono ?_
        rintro e w4 ⟨rfl, rfl⟩
        go_wp2
        go_ret3
        exact HRt.out
      · have C5 := Lib.hid (C4.out w3)
        rw [hp, hs'] at C5
        have ST := Lib.hid hnx
        have OL := Lib.hid (O3.out.al (.cells #[.string l] 9))
        have B4 := Lib.hid (B3.out.alloc (B3.out.size) (.cells #[.string l] 9))
        have CS : Hid ((w3.alloc (.cells #[.string l] 9)).cell? ⟨w3.heap.size, 0, none⟩ = some (.string l)) := Lib.hid ((OwnZ.lit1 w3 w.heap.size (B3.out.size) l).cellAt 0 (by simp))
        have H1 : Hid (done.length ≤ 1048576) := Lib.hid (by omega)
        clear hp hs' hnx HC
        go_wp2_with fail
        refine C5.out.mono ?_
        rintro e w4 ⟨rfl, rfl⟩
        go_wp2_with (first | (at_builtin; refine wpList_appZ rfl _ _ rfl w.heap.size _ done rfl OL.out w4.heap.size 1 l rfl CS.out H1.out (B4.out.size) ?_; intro v' w' hO' hB'))
        have B5 := Lib.hid (B4.out.trans hB')
        have O5 := Lib.hid hO'
        clear hO' hB'
        go_wp2
        go_roundw
        case rel => exact ⟨_, s', c1, _, rfl, rfl, rfl, hc0, hc1, ST, O5, B5⟩
        case measure => exact hlt
  · have hd : decide (16000 < (t.size : Int)) = true := decide_eq_true (by omega)
    have HX : Hid (RcO t w (.returned (.tuple #[.slice none 0 0, .int .i64 0, .bool false])) w) := Lib.hid (by
      obtain ⟨e1, e2, e3⟩ := rc_no h16
      exact ⟨_, by rw [e1, e3], by rw [e2]; exact .nil, Below.refl _ _⟩)
    go_enter Tryd.func45, Tryd.ntmps45
    go_wp2
    go_ret3
    exact HX.out
end Go.Proofs.YtncjkhdnpioinaaDoor
