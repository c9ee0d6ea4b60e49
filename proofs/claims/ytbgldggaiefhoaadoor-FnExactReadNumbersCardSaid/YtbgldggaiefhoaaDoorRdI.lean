/- Numbers read in decimal: both sides. -/
import Derived.Test.YtbgldggaiefhoaaDoorDecI
import Derived.Test.YtbgldggaiefhoaaDoorTabsE
import Derived.Test.YtbgldggaiefhoaaDoorRdM
import Derived.Test.YtbgldggaiefhoaaDoorBy
import Derived.Test.YtbgldggaiefhoaaDoorShelfP
namespace Go.Proofs.YtbgldggaiefhoaaDoor
open Go.RowKit
set_option linter.unusedVariables false

/-- the number with a text, and whether there is one -/
def rdOk (s : ByteArray) : Bool := decide (1 ≤ s.size ∧ s.size ≤ 17 ∧ -1000000000000000 ≤ sval s.data.toList ∧ sval s.data.toList ≤ 1000000000000000 ∧ decZ (sval s.data.toList) = s)
def rdV (s : ByteArray) : Int := if rdOk s then sval s.data.toList else 0
theorem rdOk_of {s : ByteArray} {n : Int} (h0 : -1000000000000000 ≤ n) (h1 : n ≤ 1000000000000000) (h : decZ n = s) : rdOk s = true ∧ sval s.data.toList = n := by
  have e : s.data.toList = Lib.itoa n := by rw [← h, decZ_itoa]
  have es : s.size = (Lib.itoa n).length := by rw [← e]; exact Array.length_toList.symm
  have hl := itoa_len h0 h1
  have hv : sval s.data.toList = n := by rw [e, sval_itoa]
  exact ⟨decide_eq_true ⟨by omega, by omega, by rw [hv]; exact h0, by rw [hv]; exact h1, by rw [hv]; exact h⟩, hv⟩
theorem rd_parse {s : ByteArray} (h : rdOk s = true) : Lib.parseIntB 64 s.data.toList = .ok (sval s.data.toList) ∧ -1000000000000000 ≤ sval s.data.toList ∧ sval s.data.toList ≤ 1000000000000000 ∧ decZ (sval s.data.toList) = s := by
  obtain ⟨_, _, h0, h1, h2⟩ := of_decide_eq_true h
  have e : s.data.toList = Lib.itoa (sval s.data.toList) := by
    have := congrArg (fun z : ByteArray => z.data.toList) h2
    simp only [decZ_itoa] at this
    exact this.symm
  refine ⟨?_, h0, h1, h2⟩
  have := parse_itoa h0 h1
  rwa [← e] at this
theorem implIsValue_any (n : Int) (w : World) : Calls Tryd.prog 60 #[.int .i64 n] w fun e w' => e = .returned (.bool (decide (-1000000000000000 ≤ n) && decide (n ≤ 1000000000000000))) ∧ w' = w := by
  by_cases h : -1000000000000000 ≤ n
  · have hd : decide (-1000000000000000 ≤ n) = true := decide_eq_true h
    rw [hd]
    go_enter Tryd.func60, Tryd.ntmps60
    go_wp2
    go_ret
    exact ⟨rfl, rfl⟩
  · have hd : decide (-1000000000000000 ≤ n) = false := decide_eq_false h
    rw [hd]
    go_enter Tryd.func60, Tryd.ntmps60
    go_wp2
    go_ret
    exact ⟨rfl, rfl⟩
theorem zne {a b : ByteArray} (h : ¬ a = b) : (a.toList == b.toList) = false := by
  rw [beq_eq_false_iff_ne]
  intro e
  rw [ByteArray.toList_eq, ByteArray.toList_eq] at e
  exact h (ByteArray.ext (Array.ext' e))
theorem numEnd3 (e : Lib.NumEnd Int) : e = Lib.NumEnd.ofOption none ∨ e = .range ∨ ∃ v, e = .ok v := by
  cases e <;> first | exact .inl rfl | exact .inr (.inl rfl) | exact .inr (.inr ⟨_, rfl⟩)
/-- what the reading has made -/
def RdB (s : ByteArray) (w : World) (e : Ending) (w' : World) : Prop := e = .returned (.tuple #[.int .i64 (rdV s), .bool (rdOk s)]) ∧ Below w.heap.size w w'
theorem implRd_any (s : ByteArray) (w : World) (hs : s.size ≤ 1048576) (ht : TabsE w) : Calls Tryd.prog 26 #[.string s] w (RdB s w) := by
  obtain ⟨tR, pR, hR⟩ := ht.eR
  obtain ⟨tS, pS, hS⟩ := ht.eS
  rcases numEnd3 (Lib.parseIntB 64 s.data.toList) with hp | hp | ⟨v, hp⟩
  ·
    have HC := Lib.hid (Tryd.strconv_ParseInt_10_at64_syntax_var s (by omega) hp tS pS w hS)
    have hr : rdOk s = false := by
      cases h : rdOk s with
      | false => rfl
      | true => rw [(rd_parse h).1] at hp; exact absurd hp (by unfold Lib.NumEnd.ofOption; exact fun h => by cases h)
    have HR := Lib.hid (show RdB s w = fun e w' => e = .returned (.tuple #[.int .i64 0, .bool false]) ∧ Below w.heap.size w w' by unfold RdB rdV; rw [hr]; rfl)
    clear hp hS hR ht hr
    go_enter Tryd.func26, Tryd.ntmps26
    go_wp2_with fail
    refine HC.out.mono ?_
    rintro e w1 ⟨N, rfl, -, -, hb⟩
    have B := Lib.hid hb
    clear hb
    go_wp2
    go_ret2
    rw [HR.out]
    exact ⟨rfl, B.out⟩
  ·
    have HC := Lib.hid (Tryd.strconv_ParseInt_10_at64_range_var s (by omega) hp tR pR w hR)
    have hr : rdOk s = false := by
      cases h : rdOk s with
      | false => rfl
      | true => rw [(rd_parse h).1] at hp; cases hp
    have HR := Lib.hid (show RdB s w = fun e w' => e = .returned (.tuple #[.int .i64 0, .bool false]) ∧ Below w.heap.size w w' by unfold RdB rdV; rw [hr]; rfl)
    clear hp hS hR ht hr
    go_enter Tryd.func26, Tryd.ntmps26
    go_wp2_with fail
    refine HC.out.mono ?_
    rintro e w1 ⟨N, rfl, -, -, hb⟩
    have B := Lib.hid hb
    clear hb
    go_wp2
    go_ret2
    rw [HR.out]
    exact ⟨rfl, B.out⟩
  ·
    have HC := Lib.hid (Tryd.strconv_ParseInt_10_at64_ok s (by omega) v hp w)
    have hb := Lib.parseIntB_bounds hp
    have b0 : -9223372036854775808 ≤ v := by have := hb.1; simpa using this
    have b1 : v ≤ 9223372036854775807 := by have := hb.2; simp at this; omega
    have HV := Lib.hid (fun w1 => implIsValue_any v w1)
    have HD := Lib.hid (fun w1 h => implDec_any v w1 b0 b1 h)
    have HT := Lib.hid ht
    by_cases hv : -1000000000000000 ≤ v ∧ v ≤ 1000000000000000
    · have hd : (decide (-1000000000000000 ≤ v) && decide (v ≤ 1000000000000000)) = true := by simp [hv.1, hv.2]
      by_cases he : decZ v = s
      · obtain ⟨r1, r2⟩ := rdOk_of hv.1 hv.2 he
        have HR := Lib.hid (show RdB s w = fun e w' => e = .returned (.tuple #[.int .i64 v, .bool true]) ∧ Below w.heap.size w w' by unfold RdB rdV; rw [r1, if_pos rfl, r2])
        have hne : ((decZ v).toList == s.toList) = true := by rw [he]; exact beq_self_eq_true _
        rw [hd] at HV
        clear hp hS hR ht hb b0 b1 hv r1 r2 he hd
        go_enter Tryd.func26, Tryd.ntmps26
        go_wp2_with fail
        refine HC.out.mono ?_
        rintro e w1 ⟨rfl, hw⟩
        have hb : Below w.heap.size w w1 := by
          rcases hw with rfl | ⟨t, rfl⟩
          · exact Below.refl _ _
          · exact Lib.bytesWorld_below _ _ _
        have B := Lib.hid hb
        have HT := Lib.hid (HT.out.below hb)
        clear hb hw
        go_wp2_with fail
        refine (HV.out _).mono ?_
        rintro e w2 ⟨rfl, rfl⟩
        go_wp2_with fail
        refine (HD.out _ HT.out.t).mono ?_
        rintro e w3 ⟨rfl, hb⟩
        have B := Lib.hid (below_step B.out hb)
        clear hb
        go_wp2
        go_ret2
        rw [HR.out]
        exact ⟨rfl, B.out⟩
      · skip
        have hr : rdOk s = false := by
          cases h : rdOk s with
          | false => rfl
          | true =>
            obtain ⟨h1, -, -, h2⟩ := rd_parse h
            rw [h1] at hp
            cases hp
            exact absurd h2 he
        have HR := Lib.hid (show RdB s w = fun e w' => e = .returned (.tuple #[.int .i64 0, .bool false]) ∧ Below w.heap.size w w' by unfold RdB rdV; rw [hr]; rfl)
        have hne : ((decZ v).toList == s.toList) = false := zne he
        rw [hd] at HV
        clear hp hS hR ht hb b0 b1 hv hr he hd
        go_enter Tryd.func26, Tryd.ntmps26
        go_wp2_with fail
        refine HC.out.mono ?_
        rintro e w1 ⟨rfl, hw⟩
        have hb : Below w.heap.size w w1 := by
          rcases hw with rfl | ⟨t, rfl⟩
          · exact Below.refl _ _
          · exact Lib.bytesWorld_below _ _ _
        have B := Lib.hid hb
        have HT := Lib.hid (HT.out.below hb)
        clear hb hw
        go_wp2_with fail
        refine (HV.out _).mono ?_
        rintro e w2 ⟨rfl, rfl⟩
        go_wp2_with fail
        refine (HD.out _ HT.out.t).mono ?_
        rintro e w3 ⟨rfl, hb⟩
        have B := Lib.hid (below_step B.out hb)
        clear hb
        go_wp2
        go_ret2
        rw [HR.out]
        exact ⟨rfl, B.out⟩
    · skip
      have hr : rdOk s = false := by
        cases h : rdOk s with
        | false => rfl
        | true =>
          obtain ⟨h1, h2, h3, -⟩ := rd_parse h
          rw [h1] at hp
          cases hp
          exact absurd ⟨h2, h3⟩ hv
      have HR := Lib.hid (show RdB s w = fun e w' => e = .returned (.tuple #[.int .i64 0, .bool false]) ∧ Below w.heap.size w w' by unfold RdB rdV; rw [hr]; rfl)
      have hd : (decide (-1000000000000000 ≤ v) && decide (v ≤ 1000000000000000)) = false := by
        cases h : (decide (-1000000000000000 ≤ v) && decide (v ≤ 1000000000000000)) with
        | false => rfl
        | true => simp at h; exact absurd h hv
      rw [hd] at HV
      clear hp hS hR ht hb b0 b1 hv hr hd
      go_enter Tryd.func26, Tryd.ntmps26
      go_wp2_with fail
      refine HC.out.mono ?_
      rintro e w1 ⟨rfl, hw⟩
      have hb : Below w.heap.size w w1 := by
        rcases hw with rfl | ⟨t, rfl⟩
        · exact Below.refl _ _
        · exact Lib.bytesWorld_below _ _ _
      have B := Lib.hid hb
      clear hb hw
      go_wp2_with fail
      refine (HV.out _).mono ?_
      rintro e w2 ⟨rfl, rfl⟩
      go_wp2
      go_ret2
      rw [HR.out]
      exact ⟨rfl, B.out⟩
end Go.Proofs.YtbgldggaiefhoaaDoor
