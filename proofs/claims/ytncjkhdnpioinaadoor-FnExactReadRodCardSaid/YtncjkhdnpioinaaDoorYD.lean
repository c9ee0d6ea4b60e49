/- Several texts in one, for a claim holds 60 files at most: Cut12 MaxP PartLe Pr Rf Fin PosW Pos SameN SameL RnI PrL Oin SlC Rod RodC RodO ValidS AllF AllP All Facts Facts2 RodR. -/
import Derived.Test.YtncjkhdnpioinaaDoorYC
import Derived.Lib.CutLaws
import Derived.Lib.Split
import Derived.Test.YtncjkhdnpioinaaDoorShelf
import Derived.BigQuiet
import Derived.WalkSmall
import Derived.WalkLawsBesides
import Derived.Lib.Hide
import Derived.Deep.QuietTactic
import Derived.Deep.RegionHeld3
import Derived.StillTail

/- What strings.Cut hands back at a mark of one byte. No program stands in this text. -/
namespace Go.Proofs.YtncjkhdnpioinaaDoor
open Go
set_option linter.unusedVariables false

abbrev cut1 (s : ByteArray) (c : UInt8) : ByteArray := ⟨(Lib.cut s.data.toList (mkZ c).data.toList).1.toArray⟩
abbrev cut2 (s : ByteArray) (c : UInt8) : ByteArray := ⟨(Lib.cut s.data.toList (mkZ c).data.toList).2.1.toArray⟩
theorem cut_none {s : ByteArray} {c : UInt8} (h : ∀ j, j < s.size → s.data.toList[j]? ≠ some c) : cut1 s c = s ∧ cut2 s c = ⟨#[]⟩ := by
  obtain ⟨h1, h2, _⟩ := Lib.cutB_miss s (mkZ c) (idx_none h)
  exact ⟨h1, h2⟩
theorem cut_at {s : ByteArray} {c : UInt8} {i : Nat} (h : ∀ j, j < i → s.data.toList[j]? ≠ some c) (hi : s.data.toList[i]? = some c) : cut1 s c = s.extract 0 i ∧ cut2 s c = s.extract (i + 1) s.size := by
  obtain ⟨h1, h2, _⟩ := Lib.cutB_hit s (mkZ c) i (idx_at h hi)
  exact ⟨h1, h2⟩
end Go.Proofs.YtncjkhdnpioinaaDoor

/- The cell that strings.Split and its like read. -/
namespace Go.Proofs.YtncjkhdnpioinaaDoor
open Go.RowKit
set_option linter.unusedVariables false
/-- the cell that strings.Split reads -/
def MaxP (w : World) : Prop := ∃ m, w.cell? ⟨2, 0, none⟩ = some (.int .i64 m)
theorem MaxP.below {w w' : World} (h : MaxP w) (hb : Below w.heap.size w w') : MaxP w' := by
  obtain ⟨m, hm⟩ := h
  exact ⟨m, by rw [hb.cell (cell_lt hm)]; exact hm⟩
end Go.Proofs.YtncjkhdnpioinaaDoor

/- Parts of a text are no longer than the text. -/
namespace Go.Proofs.YtncjkhdnpioinaaDoor
open Go
set_option linter.unusedVariables false

theorem part_le (c : UInt8) : ∀ (n : Nat) (s : ByteArray), s.size ≤ n → ∀ x ∈ cutZ c s, x.size ≤ s.size := by
  intro n
  induction n with
  | zero =>
    intro s hs x hx
    rw [cutZ_none (fun j hj => by omega)] at hx
    obtain rfl := List.mem_singleton.1 hx
    exact Nat.le_refl _
  | succ n ih =>
    intro s hs x hx
    have hsz := Lib.size_eq s
    rcases first_mark c s.data.toList with h | ⟨i, h, hi⟩
    · rw [cutZ_none (fun j hj => h j (by omega))] at hx
      obtain rfl := List.mem_singleton.1 hx
      exact Nat.le_refl _
    · have hlt := lt_of_at hi
      rw [cutZ_at h hi] at hx
      rcases List.mem_cons.1 hx with rfl | hx
      · simp only [ByteArray.size_extract]; omega
      · have := ih (s.extract (i + 1) s.size) (by rw [size_ex]; omega) x hx
        rw [size_ex] at this; omega
theorem cells_of (ps : List ByteArray) (N k : Nat) (hk : k < ps.length) : (Lib.cellsOf ps N)[k]? = some (.string (ps.getD k ⟨#[]⟩)) := by
  unfold Lib.cellsOf
  rw [List.getElem?_toArray, List.getElem?_append_left (by simpa using hk), List.getElem?_map, List.getElem?_eq_getElem hk, List.getD_eq_getElem?_getD, List.getElem?_eq_getElem hk]
  rfl
end Go.Proofs.YtncjkhdnpioinaaDoor

/- The program's reader of parts: what it holds, and what it takes. -/
namespace Go.Proofs.YtncjkhdnpioinaaDoor
open Go.RowKit
set_option linter.unusedVariables false

/-- a reader in block p: the parts that are left, and the count -/
def PrSt (w : World) (p : Nat) (m : UInt8) (ps : List ByteArray) (c : Int) : Prop :=
  ∃ r : ByteArray, Cells w p [.string (mkZ m), .string r, .int .i64 c] ∧ r.size ≤ 1048576 ∧ ((ps = [] ∧ r = ⟨#[]⟩) ∨ (ps ≠ [] ∧ cutZ m r = ps))
theorem PrSt.kept {w w' : World} {p : Nat} {m : UInt8} {ps : List ByteArray} {c : Int} (h : PrSt w p m ps c) (hb : Below w.heap.size w w') : PrSt w' p m ps c := by
  obtain ⟨r, h1, h2⟩ := h
  exact ⟨r, h1.kept hb, h2⟩
theorem PrSt.lt {w : World} {p : Nat} {m : UInt8} {ps : List ByteArray} {c : Int} (h : PrSt w p m ps c) : p < w.heap.size := by
  obtain ⟨r, h1, h2⟩ := h
  exact h1.lt
theorem PrSt.start {w : World} {p : Nat} {m : UInt8} {t : ByteArray} {c : Int} (h : Cells w p [.string (mkZ m), .string t, .int .i64 c]) (ht : t.size ≤ 1048576) : PrSt w p m (cutZ m t) c :=
  ⟨t, h, ht, .inr ⟨by intro e; have := cutZ_length m t; rw [e] at this; simp at this, rfl⟩⟩
abbrev hdP (ps : List ByteArray) : ByteArray := ps.headD ⟨#[]⟩
theorem pr_step {m : UInt8} {ps : List ByteArray} {r : ByteArray} (hr : r.size ≤ 1048576) (h : (ps = [] ∧ r = ⟨#[]⟩) ∨ (ps ≠ [] ∧ cutZ m r = ps)) :
    ∃ r', cut1 r m = hdP ps ∧ cut2 r m = r' ∧ (hdP ps).size ≤ 1048576 ∧ r'.size ≤ 1048576 ∧ ((ps.tail = [] ∧ r' = ⟨#[]⟩) ∨ (ps.tail ≠ [] ∧ cutZ m r' = ps.tail)) := by
  have hsz := Lib.size_eq r
  rcases h with ⟨rfl, rfl⟩ | ⟨hne, rfl⟩
  · obtain ⟨h1, h2⟩ := cut_none (s := (⟨#[]⟩ : ByteArray)) (c := m) (fun j hj => absurd hj (Nat.not_lt_zero _))
    exact ⟨⟨#[]⟩, h1, h2, Nat.zero_le _, Nat.zero_le _, .inl ⟨rfl, rfl⟩⟩
  · rcases first_mark m r.data.toList with h | ⟨i, h, hi⟩
    · have hn : ∀ j, j < r.size → r.data.toList[j]? ≠ some m := fun j hj => h j (by omega)
      obtain ⟨h1, h2⟩ := cut_none hn
      rw [cutZ_none hn]
      exact ⟨⟨#[]⟩, h1, h2, hr, Nat.zero_le _, .inl ⟨rfl, rfl⟩⟩
    · obtain ⟨h1, h2⟩ := cut_at h hi
      rw [cutZ_at h hi]
      have hlt := lt_of_at hi
      refine ⟨_, h1, h2, ?_, ?_, .inr ⟨?_, rfl⟩⟩
      · show (r.extract 0 i).size ≤ _
        rw [Lib.size_eq, Lib.extract_data]; simp; omega
      · rw [size_ex]; omega
      · intro e
        have := cutZ_length m (r.extract (i + 1) r.size)
        have e' : cutZ m (r.extract (i + 1) r.size) = [] := e
        rw [e'] at this
        simp at this

set_option maxHeartbeats 1600000 in
set_option maxRecDepth 4000 in
theorem take_any (p : Nat) (m : UInt8) (ps : List ByteArray) (c : Int) (w : World) (h : PrSt w p m ps c) (hM : MaxP w) (hc : -1000 ≤ c) (hc2 : c ≤ 2000000) :
    Calls Tryd.prog 73 #[.pointer (some ⟨p, 0, none⟩)] w fun e w' => e = .returned (.string (hdP ps)) ∧ (hdP ps).size ≤ 1048576 ∧ PrSt w' p m ps.tail (c - 1) ∧ Onl p w w' := by
  obtain ⟨r, hC, hr, hcase⟩ := h
  obtain ⟨r', h1, h2, hs1, hs2, hnx⟩ := pr_step hr hcase
  obtain ⟨mm, hm⟩ := hM
  have C0 := Lib.hid (fun q => Tryd.strings_Cut r (mkZ m) mm (w.drewN q) (by omega) hm)
  have h1' : (⟨(Lib.cut r.data.toList (mkZ m).data.toList).1.toArray⟩ : ByteArray) = hdP ps := h1
  have h2' : (⟨(Lib.cut r.data.toList (mkZ m).data.toList).2.1.toArray⟩ : ByteArray) = r' := h2
  rw [h1', h2'] at C0
  obtain ⟨x, hx⟩ : ∃ x, hdP ps = x := ⟨_, rfl⟩
  rw [hx] at C0 hs1 ⊢
  have HS := Lib.hid hs1
  have HR := Lib.hid (And.intro hs2 hnx)
  have CC := Lib.hid hC
  have c0 := hC.at 0 rfl; have c1 := hC.at 1 rfl; have c2 := hC.at 2 rfl
  have f1 := hC.fz 1; have f2 := hC.fz 2
  have e1 : IntKind.i64.wrap (c - 1) = c - 1 := by unfold IntKind.wrap; simp [IntKind.bits, IntKind.signed]; omega
  have HF := Lib.hid (fun q => show Cells (((w.drewN q).setCell ⟨p, 1, none⟩ (.string r')).setCell ⟨p, 2, none⟩ (.int .i64 (c - 1))) p [.string (mkZ m), .string r', .int .i64 (c - 1)] from ((hC.drewN (n := q)).set 1 (by simp) (.string r')).set 2 (by simp) (.int .i64 (c - 1)))
  have HO := Lib.hid (fun q => ((Onl.refl p w).drewN (n := q)).setCell 1 (.string r') |>.setCell 2 (.int .i64 (c - 1)))
  clear hC h1 h2 h1' h2' hx hs1 hs2 hnx hcase hm CC
  go_enter Tryd.func73, Tryd.ntmps73
  go_wp2
  go_quiet ((go_at_call 91; exact Calls.quiet_of (C0.out _)))
  go_wp2
  go_ret
  exact ⟨rfl, HS.out, ⟨r', HF.out _, HR.out.1, HR.out.2⟩, HO.out _⟩
end Go.Proofs.YtncjkhdnpioinaaDoor

/- Refusals: the panic with which the program's readers stop, and what is needed. -/
namespace Go.Proofs.YtncjkhdnpioinaaDoor
open Go.RowKit
set_option linter.unusedVariables false

/-- the refusal that outputs no -/
abbrev rfV : Value := .iface 202 (.agg #[.string ⟨#[110, 111]⟩])
abbrev rfP : Ending := .panicked [{ v := rfV, recovered := false }]
theorem refuse_no (w : World) : Calls Tryd.prog 114 #[.bool false] w fun e w' => e = rfP ∧ w' = w := by
  go_enter Tryd.func114, Tryd.ntmps114
  go_wp2
  exact ⟨rfl, rfl, rfl⟩
theorem refuse_yes (w : World) : Calls Tryd.prog 114 #[.bool true] w fun e w' => e = .returned (.tuple #[]) ∧ w' = w := by
  go_enter Tryd.func114, Tryd.ntmps114
  go_wp2
  go_end0
  exact ⟨rfl, rfl⟩
theorem needI_yes (n : Int) (w : World) : Calls Tryd.prog 71 #[.int .i64 n, .bool true] w fun e w' => e = .returned (.int .i64 n) ∧ w' = w := by
  go_enter Tryd.func71, Tryd.ntmps71
  go_wp2_with (go_at_call 114; refine (refuse_yes _).mono ?_; rintro e w' ⟨rfl, rfl⟩)
  go_ret
  exact ⟨rfl, rfl⟩
theorem needI_no (n : Int) (w : World) : Calls Tryd.prog 71 #[.int .i64 n, .bool false] w fun e w' => e = rfP ∧ w' = w := by
  go_enter Tryd.func71, Tryd.ntmps71
  go_wp2_with (go_at_call 114; refine (refuse_no _).mono ?_; rintro e w' ⟨rfl, rfl⟩)
  exact ⟨rfl, rfl, rfl⟩
theorem needF_yes (a : Option Addr) (n c : Nat) (w : World) : Calls Tryd.prog 113 #[.slice a n c, .bool true] w fun e w' => e = .returned (.slice a n c) ∧ w' = w := by
  go_enter Tryd.func113, Tryd.ntmps113
  go_wp2_with (go_at_call 114; refine (refuse_yes _).mono ?_; rintro e w' ⟨rfl, rfl⟩)
  go_ret
  exact ⟨rfl, rfl⟩
theorem needF_no (a : Option Addr) (n c : Nat) (w : World) : Calls Tryd.prog 113 #[.slice a n c, .bool false] w fun e w' => e = rfP ∧ w' = w := by
  go_enter Tryd.func113, Tryd.ntmps113
  go_wp2_with (go_at_call 114; refine (refuse_no _).mono ?_; rintro e w' ⟨rfl, rfl⟩)
  exact ⟨rfl, rfl, rfl⟩
end Go.Proofs.YtncjkhdnpioinaaDoor

/- Whether a number is finite: the code's own functions. -/
namespace Go.Proofs.YtncjkhdnpioinaaDoor
open Go.RowKit

theorem abs_any (r : Nat) (w : World) (hr : (Lit.float .f64 r).wf = true) : Calls Tryd.prog 209 #[.float .f64 r] w fun e w' => e = .returned (.float .f64 (r % 9223372036854775808)) ∧ w = w' := by
  have e := abs_bits r (wf64 hr)
  go_enter Tryd.func209, Tryd.ntmps209
  go_wp2
  go_ret
  exact ⟨by simp, rfl⟩

theorem isFiniteLong_any (r : Nat) (w : World) (hr : (Lit.float .f64 r).wf = true) :
    Calls Tryd.prog 159 #[.float .f64 r] w fun e w' => e = .returned (.bool (fin .f64 r)) ∧ w = w' := by
  have ho := order_self (k := .f64) (x := r)
  cases hn : nn .f64 r
  · rw [hn] at ho; simp only [Bool.false_eq_true, if_false] at ho
    have hg := abs_gt r hn
    go_enter Tryd.func159, Tryd.ntmps159
    go_wp2_with (first | (go_at_call 209; refine (abs_any _ _ hr).mono ?_; rintro e w' ⟨rfl, rfl⟩) | go_in)
    go_ret
    exact ⟨by simp, rfl⟩
  · rw [hn] at ho; simp only [if_true] at ho
    have hf := fin_nan hn
    go_enter Tryd.func159, Tryd.ntmps159
    go_wp2_with go_in
    go_ret
    exact ⟨by simp [hf], rfl⟩

theorem isFiniteLong_up {a r : Nat} (w : World) (h : UR a r) :
    Calls Tryd.prog 159 #[.float .f64 r] w fun e w' => e = .returned (.bool (fin .f32 a)) ∧ w = w' :=
  (isFiniteLong_any r w h.2).mono fun _ _ ⟨he, hw⟩ => ⟨by rw [he, fin_up h], hw⟩

theorem implFinite_any (a : Nat) (w : World) : Calls Tryd.prog 117 #[.float .f32 a] w (Bol (fin .f32 a) w) := by
  go_enter Tryd.func117, Tryd.ntmps117
  go_wp2_with (first | (refine wpList_up rfl Tryd.underlying46 Tryd.underlying102 _ rfl _ rfl ?_; intro _ _ _) | (go_at_call 159; refine (isFiniteLong_up _ (by assumption)).mono ?_; rintro e w' ⟨rfl, rfl⟩))
  go_ret
  exact ⟨rfl, _, rfl⟩

theorem specFinite_any (a : Nat) (w : World) : Calls Tryd.prog 162 #[.float .f32 a] w (Bol (fin .f32 a) w) := by
  go_enter Tryd.func162, Tryd.ntmps162
  go_wp2_with (refine wpList_farith rfl _ _ _ _ _ rfl rfl _ _ _ rfl rfl ?_; intro _ _ _)
  go_ret
  rename_i h
  exact ⟨congrArg (fun b => Ending.returned (.bool b)) (sub_zero h), _, rfl⟩
end Go.Proofs.YtncjkhdnpioinaaDoor

/- Numbers that are finite and greater than 0; whether two numbers are the same. -/
namespace Go.Proofs.YtncjkhdnpioinaaDoor
open Go.RowKit

/-- greater than 0 -/
def gt0 (a : Nat) : Bool := FloatKind.f32.format.order a 0 == some .gt
/-- finite and greater than 0 -/
def pos (a : Nat) : Bool := fin .f32 a && gt0 a

/-- a bool, and nothing that was there has turned -/
def BolB (b : Bool) (w : World) (e : Ending) (w' : World) : Prop := e = .returned (.bool b) ∧ Below w.heap.size w w'
theorem Bol.below {b : Bool} {w : World} {e : Ending} {w' : World} (h : Bol b w e w') : BolB b w e w' := by
  obtain ⟨he, n, rfl⟩ := h
  exact ⟨he, below_drewN (Below.refl _ _) n⟩

theorem results_cell1 {fn : Func} {p : Tmp} {ty : TypeId} (h : fn.results = #[.cell p ty]) (tmps : Array Value) (P : Program) (w : World) :
    (results fn tmps).run P w = ((asAddr (tmps.getD p undef)).run P w).andThen fun a w₁ => (loadVar ty a).run P w₁ := by
  simp only [results, h]
  simp [Sem.run_bind, Result.andThen]


theorem ret_bb {x b : Bool} (h : x = b) : Ending.returned (.bool b) = Ending.returned (.bool x) := by rw [h]
end Go.Proofs.YtncjkhdnpioinaaDoor

/- Numbers that are finite and greater than 0; whether two numbers are the same. -/
namespace Go.Proofs.YtncjkhdnpioinaaDoor
open Go.RowKit

theorem specAbove_any (a : Nat) (w : World) : Calls Tryd.prog 163 #[.float .f32 a] w (Bol (pos a) w) := by
  cases hf : fin .f32 a
  · go_enter Tryd.func163, Tryd.ntmps163
    go_wp2_with (go_at_call 162; refine (specFinite_any _ _).mono ?_; rw [hf]; rintro e w' ⟨rfl, n, rfl⟩)
    go_ret
    exact ⟨by simp [pos, hf], _, rfl⟩
  · go_enter Tryd.func163, Tryd.ntmps163
    go_wp2_with (go_at_call 162; refine (specFinite_any _ _).mono ?_; rw [hf]; rintro e w' ⟨rfl, n, rfl⟩)
    go_ret
    exact ⟨by simp [pos, hf, gt0], _, rfl⟩

theorem implPos_any (a : Nat) (w : World) : Calls Tryd.prog 116 #[.float .f32 a] w (Bol (pos a) w) := by
  cases hf : fin .f32 a
  · go_enter Tryd.func116, Tryd.ntmps116
    go_wp2_with (go_at_call 117; refine (implFinite_any _ _).mono ?_; rw [hf]; rintro e w' ⟨rfl, n, rfl⟩)
    go_ret
    exact ⟨by simp [pos, hf], _, rfl⟩
  · go_enter Tryd.func116, Tryd.ntmps116
    go_wp2_with (go_at_call 117; refine (implFinite_any _ _).mono ?_; rw [hf]; rintro e w' ⟨rfl, n, rfl⟩)
    go_ret
    exact ⟨by simp [pos, hf, gt0], _, rfl⟩
end Go.Proofs.YtncjkhdnpioinaaDoor

/- Whether two numbers are the same, by their bits: both sides. (Never with SameEnd in one seat: it holds the same.) -/
namespace Go.Proofs.YtncjkhdnpioinaaDoor
open Go.RowKit

/-- the bits of a number, as the document tells them -/
def bits32 (a : Nat) : Int := if nn .f32 a then 2143289344 else a

theorem specBits_any (a : Nat) (w : World) (wa : (Lit.float .f32 a).wf = true) :
    Calls Tryd.prog 161 #[.float .f32 a] w fun e w' => e = .returned (.int .i64 (bits32 a)) ∧ w = w' := by
  have ho := order_self (k := .f32) (x := a)
  have hl := wf32 wa
  cases hn : nn .f32 a
  · rw [hn] at ho; simp only [Bool.false_eq_true, if_false] at ho
    go_enter Tryd.func161, Tryd.ntmps161
    go_wp2
    go_ret
    exact ⟨by simp [bits32, hn], rfl⟩
  · rw [hn] at ho; simp only [if_true] at ho
    go_enter Tryd.func161, Tryd.ntmps161
    go_wp2
    go_ret
    exact ⟨by simp [bits32, hn], rfl⟩
theorem implBits_any (a : Nat) (w : World) (wa : (Lit.float .f32 a).wf = true) :
    Calls Tryd.prog 176 #[.float .f32 a] w fun e w' => e = .returned (.int .i64 (bits32 a)) ∧ w = w' := by
  have ho := order_self (k := .f32) (x := a)
  have hl := wf32 wa
  cases hn : nn .f32 a
  · rw [hn] at ho; simp only [Bool.false_eq_true, if_false] at ho
    go_enter Tryd.func176, Tryd.ntmps176
    go_wp2
    go_ret
    exact ⟨by simp [bits32, hn], rfl⟩
  · rw [hn] at ho; simp only [if_true] at ho
    go_enter Tryd.func176, Tryd.ntmps176
    go_wp2
    go_ret
    exact ⟨by simp [bits32, hn], rfl⟩


def sm (a b : Nat) : Bool := bits32 a == bits32 b
theorem bitsC (a : Nat) (wa : (Lit.float .f32 a).wf = true) (w : World) : Calls Tryd.prog 176 #[.float .f32 a] w fun e w' => e = .returned (.int .i64 (bits32 a)) ∧ w' = w :=
  (implBits_any a w wa).mono fun _ _ ⟨h1, h2⟩ => ⟨h1, h2.symm⟩
end Go.Proofs.YtncjkhdnpioinaaDoor

/- Whether two lists of numbers are the same: both sides. -/
namespace Go.Proofs.YtncjkhdnpioinaaDoor
open Go.RowKit
set_option linter.unusedVariables false

def Wf (zs : List Nat) : Prop := ∀ i, i < zs.length → (Lit.float .f32 (zs.getD i 0)).wf = true
/-- are two lists the same -/
def smL (zs ys : List Nat) : Bool := (zs.length == ys.length) && (List.range zs.length).all (fun k => sm (zs.getD k 0) (ys.getD k 0))
theorem smL_len {zs ys : List Nat} (h : ¬ zs.length = ys.length) : smL zs ys = false := by simp [smL, h]
theorem smL_no {zs ys : List Nat} {k : Nat} (hk : k < zs.length) (h : sm (zs.getD k 0) (ys.getD k 0) = false) : smL zs ys = false := by
  unfold smL
  rw [Bool.and_eq_false_iff]
  refine .inr ?_
  rw [List.all_eq_false]
  exact ⟨k, by simpa using hk, by rw [h]; simp⟩
theorem smL_yes {zs ys : List Nat} (hl : zs.length = ys.length) (h : ∀ j, j < zs.length → sm (zs.getD j 0) (ys.getD j 0) = true) : smL zs ys = true := by
  unfold smL
  rw [Bool.and_eq_true, List.all_eq_true]
  exact ⟨by simpa using hl, fun x hx => h x (by simpa using hx)⟩

end Go.Proofs.YtncjkhdnpioinaaDoor

/- Numbers read from a text: the program. -/
namespace Go.Proofs.YtncjkhdnpioinaaDoor
open Go.RowKit
set_option linter.unusedVariables false

def RnO (s : ByteArray) (w : World) (e : Ending) (w' : World) : Prop := ∃ v, e = .returned (.tuple #[v, .bool (nlOk s)]) ∧ ORow w.heap.size w' v (nlL s) ∧ Below w.heap.size w w'
set_option maxHeartbeats 3200000 in
set_option maxRecDepth 8000 in
theorem implNl_any (s : ByteArray) (w : World) (hs : s.size ≤ 1048576) (hM : MaxP w) : Calls Tryd.prog 135 #[.string s, .int .i64 256, .func (.func 136) #[] #[]] w (RnO s w) := by
  cases hn : isNone s with
  | true =>
    have HP : Hid (RnO s w (.returned (.tuple #[.slice none 0 0, .bool true])) w) := Lib.hid ⟨_, by rw [(nl_none hn).1], by rw [(nl_none hn).2]; exact .nil, Below.refl _ _⟩
    have q : (s.toList == [110, 111, 110, 101]) = true := hn
    clear hn
    go_enter Tryd.func135, Tryd.ntmps135
    go_wp2
    go_ret2
    exact HP.out
  | false =>
    have q : (s.toList == [110, 111, 110, 101]) = false := hn
    obtain ⟨m, hm⟩ := hM
    obtain ⟨ps, hps⟩ : ∃ ps, cutZ 44 s = ps := ⟨_, rfl⟩
    have HP : Hid (Calls Tryd.prog 173 #[.string s, .string ⟨#[44]⟩, .int .i64 257] w fun e w' => e = .returned (.slice (some ⟨w.heap.size, 0, none⟩) (Lib.splitB (mkZ 44) 0 (min (256 + 1) (s.size + 1) - 1) s).length (min (256 + 1) (s.size + 1))) ∧ w' = w.alloc (.cells (Lib.cellsOf (Lib.splitB (mkZ 44) 0 (min (256 + 1) (s.size + 1) - 1) s) (min (256 + 1) (s.size + 1))) 9)) :=
      Lib.hid (Tryd.strings_SplitN s (mkZ 44) 257 m w (by omega) hm (Nat.le_refl 1) (by omega) (by omega))
    obtain ⟨C, hC⟩ : ∃ C, min (256 + 1) (s.size + 1) = C := ⟨_, rfl⟩
    by_cases hfew : ps.length ≤ 256
    · have hL : Lib.splitB (mkZ 44) 0 (min (256 + 1) (s.size + 1) - 1) s = ps := by rw [← hps]; exact splitN_few 44 s 256 (by rw [hps]; exact hfew)
      rw [hL, hC] at HP
      have HG : Hid ((∀ k, k < ps.length → rnOk (ps.getD k ⟨#[]⟩) = true) → ∀ v w', ORow w.heap.size w' v (ps.map rnV) → Below w.heap.size w w' → RnO s w (.returned (.tuple #[v, .bool true])) w') := Lib.hid (fun ha v w' hr hb => by
        have e := nl_good hn (by rw [hps]; exact hfew) (by rw [hps]; exact ha)
        exact ⟨v, by rw [e.1], by rw [e.2, hps]; exact hr, hb⟩)
      have HB : Hid (∀ k, k < ps.length → rnOk (ps.getD k ⟨#[]⟩) = false → ∀ w', Below w.heap.size w w' → RnO s w (.returned (.tuple #[.slice none 0 0, .bool false])) w') := Lib.hid (fun k hk ha w' hb => by
        have e := nl_bad hn (k := k) (by rw [hps]; exact hk) (by rw [hps]; exact ha)
        exact ⟨_, by rw [e.1], by rw [e.2]; exact .nil, hb⟩)
      have HS := Lib.hid (fun k (hk : k < ps.length) => show (ps.getD k ⟨#[]⟩).size ≤ 1048576 from by
        have h1 := part_le 44 s.size s (Nat.le_refl _) (ps.getD k ⟨#[]⟩) (by
          rw [hps, List.getD_eq_getElem?_getD, List.getElem?_eq_getElem hk]
          exact List.getElem_mem hk)
        omega)
      have HV := Lib.hid (fun x w1 (hx : x.size ≤ 1048576) => implRn_any x w1)
      have hmk := run_make_row' (P := Tryd.prog) 39 46 (.float .f32 0) 4 Tryd.underlying39 Tryd.rowOf32 rfl .i64 .i64 ps.length (by omega) (by omega)
      have CL := Lib.hid (cells_of ps C)
      have B0 := Lib.hid (below_al1 w (.cells (Lib.cellsOf ps C) 9))
      clear hn hps hL hC hm
      obtain ⟨n, hnn⟩ : ∃ n, ps.length = n := ⟨_, rfl⟩
      have HN := Lib.hid hnn
      rw [hnn] at hfew hmk HP
      clear hnn
      go_enter Tryd.func135, Tryd.ntmps135
      go_wp2_with fail
      refine HP.out.mono ?_
      rintro e w1 ⟨rfl, hw⟩
      have B1 : Hid (Below w.heap.size w w1) := Lib.hid (by rw [hw]; exact B0.out)
      have PC : Hid (∀ k, k < n → w1.cell? ⟨w.heap.size, k, none⟩ = some (.string (ps.getD k ⟨#[]⟩))) := Lib.hid (fun k hk => by
        rw [hw]
        have := CL.out k (by have := HN.out; omega)
        rw [World.cell?_of_block (w := w.alloc (.cells (Lib.cellsOf ps C) 9)) (w' := w.alloc (.cells (Lib.cellsOf ps C) 9)) rfl]
        simp only [World.cell?]
        rw [show (w.alloc (.cells (Lib.cellsOf ps C) 9)).heap[w.heap.size]? = some (.cells (Lib.cellsOf ps C) 9 (0, 0)) from heap_alloc_new w _]
        exact this)
      clear hw B0 CL
      have R0 := Lib.hid ((World.rowIs_made w1 (.float .f32 0) n 46).congr (g := fun j => .float .f32 (if j < 0 then rnV (ps.getD j ⟨#[]⟩) else 0)) (fun j _ => by simp))
      go_wp2
      go_loopw [10, 11, 12, 13, 29] (fun _ _ _ _ i wr => ∃ k : Nat, k ≤ n ∧ i = .int .i64 k ∧ Hid (∀ j, j < k → rnOk (ps.getD j ⟨#[]⟩) = true) ∧ Hid (Below w1.heap.size w1 wr) ∧ Hid (wr.rowIs w1.heap.size 46 n (fun j => .float .f32 (if j < k then rnV (ps.getD j ⟨#[]⟩) else 0)))) (fun _ _ _ _ i _ => n - (intOf i).toNat)
      case atStart => exact ⟨0, by omega, rfl, Lib.hid (fun j h => by omega), Lib.hid (below_al1 w1 _), R0⟩
      case round =>
        obtain ⟨k, hk, rfl, ha, hb, hr⟩ := hrel
        by_cases hlt : k < n
        · have hcell : wr.cell? ⟨w.heap.size, k, none⟩ = some (.string (ps.getD k ⟨#[]⟩)) := (hb.out.cell (p := ⟨w.heap.size, k, none⟩) (cell_lt (PC.out k hlt))).trans (PC.out k hlt)
          have HSx := Lib.hid (HS.out k (by have := HN.out; omega))
          obtain ⟨x, hx⟩ : ∃ x, ps.getD k ⟨#[]⟩ = x := ⟨_, rfl⟩
          rw [hx] at hcell HSx
          have HX := Lib.hid hx
          clear hx
          go_wp2_with fail
          refine (HV.out x _ HSx.out).mono ?_
          rintro e w2 ⟨rfl, hb2⟩
          have R2 := Lib.hid (hr.out.of_block (hb2.block _ hr.out.lt))
          have B2 := Lib.hid (below_step hb.out hb2)
          clear hb2 hcell
          cases hrd : rnOk x with
          | false =>
            have HR := Lib.hid (HB.out k (by have := HN.out; omega) (by rw [HX.out]; exact hrd) w2 (below_step B1.out B2.out))
            clear hrd
            go_wp2
            go_ret2
            exact HR.out
          | true =>
            obtain ⟨y, hy⟩ : ∃ y, rnV x = y := ⟨_, rfl⟩
            have C1 := R2.out.cell hlt
            have F1 := R2.out.frozen k
            have R3 := Lib.hid (R2.out.set k (.float .f32 y))
            have B3 := Lib.hid (B2.out.setCell (p := ⟨w1.heap.size, k, none⟩) (Nat.le_refl _) (.float .f32 y))
            have HA : Hid (∀ j, j < k + 1 → rnOk (ps.getD j ⟨#[]⟩) = true) := Lib.hid (fun j hj => by
              by_cases e : j = k
              · rw [e, HX.out]; exact hrd
              · exact ha.out j (by omega))
            have HY := Lib.hid (fun j => show (if j = k then (.float .f32 y : Value) else .float .f32 (if j < k then rnV (ps.getD j ⟨#[]⟩) else 0)) = .float .f32 (if j < k + 1 then rnV (ps.getD j ⟨#[]⟩) else 0) by
              by_cases e : j = k
              · subst e; rw [if_pos rfl, if_pos (by omega), HX.out, hy]
              · rw [if_neg e]
                by_cases e2 : j < k
                · rw [if_pos e2, if_pos (by omega)]
                · rw [if_neg e2, if_neg (by omega)])
            rw [if_neg (Nat.lt_irrefl k)] at C1
            rw [hy]
            clear hrd hy
            go_wp2
            go_roundw
            case rel => exact ⟨k + 1, by omega, by go_num, HA, B3, Lib.hid (R3.out.congr (fun j _ => HY.out j))⟩
            case measure => simp [intOf]; omega
        · have e : k = n := by omega
          have HE := Lib.hid (HG.out (fun j hj => ha.out j (by have := HN.out; omega)))
          have hlen : (ps.map rnV).length = n := by rw [List.length_map]; exact HN.out
          have HO : Hid (ORow w.heap.size wr (.slice (some ⟨w1.heap.size, 0, none⟩) n n) (ps.map rnV)) := Lib.hid (.inr ⟨w1.heap.size, 0, n, by rw [hlen], B1.out.size, RowF.of_row hr.out (by omega) (fun i hi => by
            rw [Nat.zero_add, if_pos (by omega)]
            simp only [List.getD_eq_getElem?_getD, List.getElem?_map]
            rw [List.getElem?_eq_getElem (by simpa using hi)]
            rfl)⟩)
          have BE := Lib.hid (below_step B1.out hb.out)
          clear ha hlen
          go_wp2
          go_ret2
          exact HE.out _ _ HO.out BE.out
    · have hL : (Lib.splitB (mkZ 44) 0 (min (256 + 1) (s.size + 1) - 1) s).length = 257 := splitN_many 44 s 256 (by rw [hps]; exact hfew)
      rw [hL, hC] at HP
      have HB : Hid (∀ w', Below w.heap.size w w' → RnO s w (.returned (.tuple #[.slice none 0 0, .bool false])) w') := Lib.hid (fun w' hb => by
        have e := nl_many hn (by rw [hps]; exact hfew)
        exact ⟨_, by rw [e.1], by rw [e.2]; exact .nil, hb⟩)
      have B0 := Lib.hid (fun o => below_al1 w o)
      clear hn hps hL hC hm
      go_enter Tryd.func135, Tryd.ntmps135
      go_wp2_with fail
      refine HP.out.mono ?_
      rintro e w1 ⟨rfl, hw⟩
      have B1 : Hid (Below w.heap.size w w1) := Lib.hid (by rw [hw]; exact B0.out _)
      clear hw
      go_wp2
      go_ret2
      exact HB.out _ B1.out
theorem implReadNumbers_any (s : ByteArray) (w : World) (hs : s.size ≤ 1048576) (hM : MaxP w) : Calls Tryd.prog 86 #[.string s] w (RnO s w) := by
  have HC := Lib.hid (implNl_any s w hs hM)
  clear hM
  go_enter Tryd.func86, Tryd.ntmps86
  go_wp2_with fail
  refine HC.out.mono ?_
  rintro e w1 ⟨v, rfl, hr, hb⟩
  have H := Lib.hid (show ORow w.heap.size w1 v (nlL s) ∧ Below w.heap.size w w1 from ⟨hr, hb⟩)
  clear hr hb
  go_wp2
  go_ret2
  exact ⟨_, rfl, H.out.1, H.out.2⟩
end Go.Proofs.YtncjkhdnpioinaaDoor

/- The program's reader of parts: lists of numbers. -/
namespace Go.Proofs.YtncjkhdnpioinaaDoor
open Go.RowKit
set_option linter.unusedVariables false

abbrev Pt (p : Nat) : Nat → Prop := (· = p)
/-- what holds in every later world in which only block p has turned -/
def Kp (F : World → Prop) (p : Nat) (w : World) : Prop := ∀ w', Tur (Pt p) w w' → F w'
theorem Tur.refl {S : Nat → Prop} (w : World) : Tur S w w := ⟨rfl, rfl, rfl, Nat.le_refl _, fun _ _ _ => rfl⟩
theorem Kp.self {F : World → Prop} {p : Nat} {w : World} (h : Kp F p w) : F w := h w (Tur.refl w)
theorem Kp.step {F : World → Prop} {p : Nat} {w w' : World} (h : Kp F p w) (t : Tur (Pt p) w w') : Kp F p w' := fun w2 h2 => h w2 (t.trans h2)
theorem Kp.of {F : World → Prop} (hF : ∀ w w', F w → Below w.heap.size w w' → F w') {p : Nat} {w0 w : World} (h : F w0) (hb : Below w0.heap.size w0 w) (hp : w0.heap.size ≤ p) : Kp F p w := fun w' t =>
  hF w0 w' h (hb.trans (t.below (fun k hk => by rw [hk]; exact hp) hb.size))
theorem PrSt.tur {w w' : World} {p q : Nat} {m : UInt8} {ps : List ByteArray} {c : Int} (h : PrSt w p m ps c) (t : Tur (Pt q) w w') (hq : p ≠ q) : PrSt w' p m ps c := by
  obtain ⟨r, h1, h2⟩ := h
  exact ⟨r, t.cells h1 hq, h2⟩
theorem ORow.turP {h p : Nat} {w w' : World} {v : Value} {zs : List Nat} (H : ORow h w v zs) (T : Tur (Pt p) w w') (hp : p < h) : ORow h w' v zs := by
  rcases H with H | ⟨g, o, c, rfl, hg, hr⟩
  · exact .inl H
  · exact .inr ⟨g, o, c, rfl, hg, hr.of_block (T.block g hr.lt (fun e => by have e' : g = p := e; omega))⟩
theorem Tur.setNew {S : Nat → Prop} {w w' : World} (h : Tur S w w') {b : Nat} (hb : w.heap.size ≤ b) (i : Nat) (u : Value) : Tur S w (w'.setCell ⟨b, i, none⟩ u) := by
  have k := (Below.refl w.heap.size w').setCell (p := ⟨b, i, none⟩) hb u
  exact ⟨k.os.trans h.os, k.tape.trans h.tape, k.output.trans h.output, Nat.le_trans h.size k.size, fun j hj hs => (k.block j hj).trans (h.block j hj hs)⟩
theorem PrSt.far {w : World} {p b : Nat} {m : UInt8} {ps : List ByteArray} {c : Int} (h : PrSt w p m ps c) (hb : b ≠ p) (i : Nat) (u : Value) : PrSt (w.setCell ⟨b, i, none⟩ u) p m ps c := by
  obtain ⟨r, h1, h2⟩ := h
  exact ⟨r, h1.far hb i u, h2⟩

set_option maxHeartbeats 1600000 in
theorem list_yes (p : Nat) (m : UInt8) (ps : List ByteArray) (c : Int) (w : World) (h : PrSt w p m ps c) (hM : Kp MaxP p w) (hc : -1000 ≤ c) (hc2 : c ≤ 2000000) (hk : nlOk (hdP ps) = true) :
    Calls Tryd.prog 62 #[.pointer (some ⟨p, 0, none⟩)] w fun e w' => ∃ v, e = .returned v ∧ ORow w.heap.size w' v (nlL (hdP ps)) ∧ PrSt w' p m ps.tail (c - 1) ∧ Tur (Pt p) w w' := by
  have H := Lib.hid h
  have HM := Lib.hid hM
  have HT := Lib.hid (take_any p m ps c w h hM.self hc hc2)
  have HR := Lib.hid (fun s w1 hs hM => implReadNumbers_any s w1 hs hM)
  obtain ⟨x, hx⟩ : ∃ x, hdP ps = x := ⟨_, rfl⟩
  rw [hx] at HT hk ⊢
  clear h hM hx
  go_enter Tryd.func62, Tryd.ntmps62
  go_wp2_with fail
  refine HT.out.mono ?_
  rintro e w1 ⟨rfl, hs, hp, ho⟩
  have P1 := Lib.hid hp
  have T1 := Lib.hid (Tur.of_onl (S := Pt p) ho rfl)
  have hle := ho.size
  have HM1 := Lib.hid ((HM.out.step T1.out).self)
  clear hp ho
  go_wp2_with fail
  refine (HR.out x w1 hs HM1.out).mono ?_
  rintro e w2 ⟨v, rfl, hr, hb⟩
  have P2 := Lib.hid (P1.out.kept hb)
  have T2 := Lib.hid (T1.out.trans (Tur.of_below hb))
  have R2 := Lib.hid (hr.mono (h' := w.heap.size) (by omega))
  rw [hk]
  obtain ⟨a, cap, rfl⟩ := hr.shape
  clear hr hb
  go_wp2_with (go_at_call 113; refine (needF_yes _ _ _ _).mono ?_; rintro e w' ⟨rfl, rfl⟩)
  go_ret
  exact ⟨_, rfl, R2.out, P2.out, T2.out⟩
set_option maxHeartbeats 1600000 in
theorem list_no (p : Nat) (m : UInt8) (ps : List ByteArray) (c : Int) (w : World) (h : PrSt w p m ps c) (hM : Kp MaxP p w) (hc : -1000 ≤ c) (hc2 : c ≤ 2000000) (hk : nlOk (hdP ps) = false) :
    Calls Tryd.prog 62 #[.pointer (some ⟨p, 0, none⟩)] w fun e w' => e = rfP ∧ Tur (Pt p) w w' := by
  have H := Lib.hid h
  have HM := Lib.hid hM
  have HT := Lib.hid (take_any p m ps c w h hM.self hc hc2)
  have HR := Lib.hid (fun s w1 hs hM => implReadNumbers_any s w1 hs hM)
  obtain ⟨x, hx⟩ : ∃ x, hdP ps = x := ⟨_, rfl⟩
  rw [hx] at HT hk
  clear h hM hx
  go_enter Tryd.func62, Tryd.ntmps62
  go_wp2_with fail
  refine HT.out.mono ?_
  rintro e w1 ⟨rfl, hs, hp, ho⟩
  have T1 := Lib.hid (Tur.of_onl (S := Pt p) ho rfl)
  have HM1 := Lib.hid ((HM.out.step T1.out).self)
  clear hp ho
  go_wp2_with fail
  refine (HR.out x w1 hs HM1.out).mono ?_
  rintro e w2 ⟨v, rfl, hr, hb⟩
  have T2 := Lib.hid (T1.out.trans (Tur.of_below hb))
  rw [hk]
  obtain ⟨a, cap, rfl⟩ := hr.shape
  clear hr hb
  go_wp2_with (go_at_call 113; refine (needF_no _ _ _ _).mono ?_; rintro e w' ⟨rfl, rfl⟩)
  exact ⟨rfl, rfl, T2.out⟩
theorem listOf_yes (p : Nat) (m : UInt8) (ps : List ByteArray) (c : Int) (n : Nat) (w : World) (h : PrSt w p m ps c) (hM : Kp MaxP p w) (hc : -1000 ≤ c) (hc2 : c ≤ 2000000) (hk : nlOk (hdP ps) = true) (hn : (nlL (hdP ps)).length = n) :
    Calls Tryd.prog 74 #[.pointer (some ⟨p, 0, none⟩), .int .i64 n] w fun e w' => ∃ v, e = .returned v ∧ ORow w.heap.size w' v (nlL (hdP ps)) ∧ PrSt w' p m ps.tail (c - 1) ∧ Tur (Pt p) w w' := by
  have HL := Lib.hid (list_yes p m ps c w h hM hc hc2 hk)
  have HN := Lib.hid hn
  clear h hM hk hn
  go_enter Tryd.func74, Tryd.ntmps74
  go_wp2_with fail
  refine HL.out.mono ?_
  rintro e w1 ⟨v, rfl, hr, hp, ht⟩
  have R := Lib.hid (And.intro hr (And.intro hp ht))
  obtain ⟨a, cap, rfl⟩ := hr.shape
  rw [HN.out] at R ⊢
  clear hr hp ht
  have q1 : ((n : Int) == (n : Int)) = true := by simp
  go_wp2_with (go_at_call 113; refine (needF_yes _ _ _ _).mono ?_; rintro e w' ⟨rfl, rfl⟩)
  go_ret
  exact ⟨_, rfl, R.out⟩
theorem listOf_no (p : Nat) (m : UInt8) (ps : List ByteArray) (c : Int) (n : Nat) (w : World) (h : PrSt w p m ps c) (hM : Kp MaxP p w) (hc : -1000 ≤ c) (hc2 : c ≤ 2000000) (hn : ¬ (nlOk (hdP ps) = true ∧ (nlL (hdP ps)).length = n)) :
    Calls Tryd.prog 74 #[.pointer (some ⟨p, 0, none⟩), .int .i64 n] w fun e w' => e = rfP ∧ Tur (Pt p) w w' := by
  cases hk : nlOk (hdP ps) with
  | false =>
    have HL := Lib.hid (list_no p m ps c w h hM hc hc2 hk)
    clear h hM hk hn
    go_enter Tryd.func74, Tryd.ntmps74
    go_wp2_with (go_at_call 62; refine HL.out.mono ?_; rintro e w' ⟨rfl, ht⟩)
    exact ⟨rfl, rfl, ht⟩
  | true =>
    have HL := Lib.hid (list_yes p m ps c w h hM hc hc2 hk)
    have hn2 : ¬ (nlL (hdP ps)).length = n := fun e => hn ⟨hk, e⟩
    clear h hM hk hn
    go_enter Tryd.func74, Tryd.ntmps74
    go_wp2_with fail
    refine HL.out.mono ?_
    rintro e w1 ⟨v, rfl, hr, hp, ht⟩
    have R := Lib.hid ht
    obtain ⟨a, cap, rfl⟩ := hr.shape
    clear hr hp ht
    obtain ⟨k, hk⟩ : ∃ k, (nlL (hdP ps)).length = k := ⟨_, rfl⟩
    rw [hk] at hn2 ⊢
    clear hk
    have q1 : ((k : Int) == (n : Int)) = false := by simp; omega
    go_wp2_with (go_at_call 113; refine (needF_no _ _ _ _).mono ?_; rintro e w' ⟨rfl, rfl⟩)
    exact ⟨rfl, rfl, R.out⟩
end Go.Proofs.YtncjkhdnpioinaaDoor

/- Lists of numbers of a call's own, each in a range of blocks; the laws' marks from any number on. -/
namespace Go.Proofs.YtncjkhdnpioinaaDoor
open Go.RowKit
set_option linter.unusedVariables false

/-- the value v is a slice that reads as zs: empty, or in a block from lo to below hi -/
def OIn (lo hi : Nat) (w : World) (v : Value) (zs : List Nat) : Prop :=
  ((∃ a c, v = .slice a 0 c) ∧ zs = []) ∨ ∃ g o c, v = .slice (some ⟨g, o, none⟩) zs.length c ∧ lo ≤ g ∧ g < hi ∧ RowF w g o zs
abbrev Rg (lo hi : Nat) : Nat → Prop := fun j => lo ≤ j ∧ j < hi
theorem OIn.of {lo : Nat} {w : World} {v : Value} {zs : List Nat} (H : ORow lo w v zs) : OIn lo w.heap.size w v zs := by
  rcases H with H | ⟨g, o, c, rfl, hg, hr⟩
  · exact .inl H
  · exact .inr ⟨g, o, c, rfl, hg, hr.lt, hr⟩
theorem OIn.tur {lo hi : Nat} {S : Nat → Prop} {w w' : World} {v : Value} {zs : List Nat} (H : OIn lo hi w v zs) (t : Tur S w w') (hS : ∀ j, lo ≤ j → j < hi → ¬ S j) : OIn lo hi w' v zs := by
  rcases H with H | ⟨g, o, c, rfl, hg, hh, hr⟩
  · exact .inl H
  · exact .inr ⟨g, o, c, rfl, hg, hh, hr.of_block (t.block g hr.lt (hS g hg hh))⟩
theorem OIn.kept {lo hi : Nat} {w w' : World} {v : Value} {zs : List Nat} (H : OIn lo hi w v zs) (hb : Below w.heap.size w w') : OIn lo hi w' v zs :=
  H.tur (S := fun _ => False) (Tur.of_below hb) (fun _ _ _ h => h)
theorem OIn.frow {lo hi : Nat} {w : World} {v : Value} {zs : List Nat} (H : OIn lo hi w v zs) (hm : zs.length ≤ maxLen) : FRow w v zs := by
  rcases H with H | ⟨g, o, c, rfl, _, _, hr⟩
  · exact .inl H
  · exact .inr ⟨g, o, c, rfl, hm, fun i hi => hr.cell hi⟩
theorem OIn.shape {lo hi : Nat} {w : World} {v : Value} {zs : List Nat} (H : OIn lo hi w v zs) : ∃ a cap, v = .slice a zs.length cap := by
  rcases H with ⟨⟨a, c, rfl⟩, rfl⟩ | ⟨g, o, c, rfl, _⟩
  · exact ⟨_, _, rfl⟩
  · exact ⟨_, _, rfl⟩
/-- the marks k, k + 1 and so on -/
def mksK (k n : Nat) : List Nat := (List.range n).map fun i => fb (k + i)
theorem mksK_length (k n : Nat) : (mksK k n).length = n := by simp [mksK]
theorem mksK_getD (k n i : Nat) (hi : i < n) : (mksK k n).getD i 0 = fb (k + i) := by simp [mksK, hi, List.getD_eq_getElem?_getD]
theorem mksK_of {k n : Nat} {ys : List Nat} (hl : ys.length = n) (h : ∀ i, i < n → ys.getD i 0 = fb (k + i)) : ys = mksK k n := by
  refine List.ext_getElem (by rw [hl, mksK_length]) fun i h1 h2 => ?_
  have := h i (by omega)
  simp only [mksK, List.getElem_map, List.getElem_range]
  rw [← this]
  simp [List.getD_eq_getElem?_getD, h1]
theorem markIn {lo hi k : Nat} {v : Value} {zs : List Nat} {w : World} (H : OIn lo hi w v zs) (hl : zs.length ≤ 400) (hk : k ≤ 400) :
    Calls Tryd.prog 66 #[v, .int .i64 k] w fun e w' => e = .returned (.int .i64 ((k + zs.length : Nat) : Int)) ∧ OIn lo hi w' v (mksK k zs.length) ∧ Tur (Rg lo hi) w w' := by
  rcases H with ⟨⟨a, c, rfl⟩, rfl⟩ | ⟨g, o, c, rfl, hg, hh, hr⟩
  · refine (mark_mt a c k w hk).mono ?_
    rintro e w' ⟨rfl, rfl⟩
    exact ⟨rfl, .inl ⟨⟨_, _, rfl⟩, rfl⟩, Tur.of_below (Below.refl _ _)⟩
  · refine (markL_any g o zs.length k c zs w hr rfl (by omega) (by omega)).mono ?_
    rintro e w' ⟨rfl, ⟨ys, hy, hf, hr'⟩, hon⟩
    rw [mksK_of hy hf] at hr'
    exact ⟨rfl, .inr ⟨g, o, c, by rw [mksK_length], hg, hh, hr'⟩, Tur.of_onl hon ⟨hg, hh⟩⟩
theorem heldIn {lo hi k n : Nat} {v : Value} {w : World} (H : OIn lo hi w v (mksK k n)) (hl : k + n ≤ 400) :
    Calls Tryd.prog 67 #[v, .int .i64 k] w fun e w' => e = .returned (.int .i64 ((k + n : Nat) : Int)) ∧ w = w' := by
  rcases H with ⟨⟨a, c, rfl⟩, hz⟩ | ⟨g, o, c, rfl, hg, hh, hr⟩
  · have : n = 0 := by have := congrArg List.length hz; rw [mksK_length] at this; simpa using this
    subst this
    exact held_mt a c k w (by omega)
  · rw [mksK_length]
    exact heldL_any g o n k c (mksK k n) w hr (mksK_length k n) (by omega) (fun i hi => mksK_getD _ _ _ hi)
end Go.Proofs.YtncjkhdnpioinaaDoor

/- Copies of lists in blocks of their own. -/
namespace Go.Proofs.YtncjkhdnpioinaaDoor
open Go.RowKit

def NewSl (zs : List Nat) (w : World) (e : Ending) (w' : World) : Prop := ∃ p, e = .returned (sl p zs) ∧ w.heap.size ≤ p ∧ Cells w' p (fl zs) ∧ Below w.heap.size w w'
/-- true, and nothing that was there has turned -/
def YesB (w : World) (e : Ending) (w' : World) : Prop := e = .returned (.bool true) ∧ Below w.heap.size w w'
end Go.Proofs.YtncjkhdnpioinaaDoor

/- Rods: a struct of four slices of 32-bit numbers, in four cells. -/
namespace Go.Proofs.YtncjkhdnpioinaaDoor
open Go.RowKit

/-- the four lists of a rod -/
structure RL where
  W : List Nat
  E : List Nat
  H : List Nat
  T : List Nat

def RL.size (r : RL) : Nat := r.W.length + r.E.length + r.H.length + r.T.length

/-- four slices read as the lists of a rod -/
structure RRow (w : World) (a b c d : Value) (r : RL) : Prop where
  W : FRow w a r.W
  E : FRow w b r.E
  H : FRow w c r.H
  T : FRow w d r.T

theorem RRow.below {w w' : World} {a b c d : Value} {r : RL} (h : RRow w a b c d r) (hb : Below w.heap.size w w') : RRow w' a b c d r :=
  ⟨h.W.below hb, h.E.below hb, h.H.below hb, h.T.below hb⟩
theorem RRow.drewN {w : World} {a b c d : Value} {r : RL} {n : Nat} (h : RRow w a b c d r) : RRow (w.drewN n) a b c d r := ⟨h.W, h.E, h.H, h.T⟩

/-- four cells of a block that may be written -/
structure At4 (w : World) (p : Nat) (a b c d : Value) : Prop where
  c0 : w.cell? ⟨p, 0, none⟩ = some a
  c1 : w.cell? ⟨p, 1, none⟩ = some b
  c2 : w.cell? ⟨p, 2, none⟩ = some c
  c3 : w.cell? ⟨p, 3, none⟩ = some d
  f : ∀ i, w.frozen? ⟨p, i, none⟩ = false

theorem At4.lt {w : World} {p : Nat} {a b c d : Value} (h : At4 w p a b c d) : p < w.heap.size := cell_lt h.c0
theorem At4.below {w w' : World} {p B : Nat} {a b c d : Value} (h : At4 w p a b c d) (hb : Below B w w') (hp : p < B) : At4 w' p a b c d :=
  ⟨(hb.cell (p := ⟨p, 0, none⟩) hp).trans h.c0, (hb.cell (p := ⟨p, 1, none⟩) hp).trans h.c1, (hb.cell (p := ⟨p, 2, none⟩) hp).trans h.c2, (hb.cell (p := ⟨p, 3, none⟩) hp).trans h.c3,
    fun i => (hb.frozen (p := ⟨p, i, none⟩) hp).trans (h.f i)⟩
theorem At4.kept {w w' : World} {p : Nat} {a b c d : Value} (h : At4 w p a b c d) (hb : Below w.heap.size w w') : At4 w' p a b c d := h.below hb h.lt
theorem At4.drewN {w : World} {p n : Nat} {a b c d : Value} (h : At4 w p a b c d) : At4 (w.drewN n) p a b c d := ⟨h.c0, h.c1, h.c2, h.c3, h.f⟩
theorem At4.made (w : World) (a b c d : Value) (t : TypeId) : At4 (w.alloc (.cells #[a, b, c, d] t)) w.heap.size a b c d :=
  ⟨by simp, by simp, by simp, by simp, fun i => by simp⟩
theorem At4.alloc {w : World} {p : Nat} {a b c d : Value} (h : At4 w p a b c d) (o : Obj) : At4 (w.alloc o) p a b c d := h.kept ((Below.refl _ _).alloc (Nat.le_refl _) o)

end Go.Proofs.YtncjkhdnpioinaaDoor

/- Copies of rods, their sizes, and the comparison of two rods. -/
namespace Go.Proofs.YtncjkhdnpioinaaDoor
open Go.RowKit

/-- the four blocks of a rod -/
structure RodAt (w : World) (p0 p1 p2 p3 : Nat) (r : RL) : Prop where
  W : Cells w p0 (fl r.W)
  E : Cells w p1 (fl r.E)
  H : Cells w p2 (fl r.H)
  T : Cells w p3 (fl r.T)
  o01 : p0 < p1
  o12 : p1 < p2
  o23 : p2 < p3
theorem RodAt.kept {w w' : World} {p0 p1 p2 p3 : Nat} {r : RL} (h : RodAt w p0 p1 p2 p3 r) (hb : Below w.heap.size w w') : RodAt w' p0 p1 p2 p3 r :=
  ⟨h.W.kept hb, h.E.kept hb, h.H.kept hb, h.T.kept hb, h.o01, h.o12, h.o23⟩
theorem RodAt.row {w : World} {p0 p1 p2 p3 : Nat} {r : RL} (h : RodAt w p0 p1 p2 p3 r) (hl : r.size ≤ 1048576) : RRow w (sl p0 r.W) (sl p1 r.E) (sl p2 r.H) (sl p3 r.T) r := by
  unfold RL.size at hl
  have hm : maxLen = 9223372036854775807 := rfl
  exact ⟨.of_cells h.W (by omega), .of_cells h.E (by omega), .of_cells h.H (by omega), .of_cells h.T (by omega)⟩
/-- a rod, by value, that reads so, in blocks of its own -/
def NewRod (r : RL) (w : World) (e : Ending) (w' : World) : Prop :=
  ∃ p0 p1 p2 p3, e = .returned (.agg #[sl p0 r.W, sl p1 r.E, sl p2 r.H, sl p3 r.T]) ∧ w.heap.size ≤ p0 ∧ RodAt w' p0 p1 p2 p3 r ∧ Below w.heap.size w w'

/-- two rods that are the same -/
structure SameRL (r r' : RL) : Prop where
  W : SameList r.W r'.W
  E : SameList r.E r'.E
  H : SameList r.H r'.H
  T : SameList r.T r'.T
theorem SameRL.refl (r : RL) : SameRL r r := ⟨.refl _, .refl _, .refl _, .refl _⟩

theorem eqRod_any (a b c d a' b' c' d' : Value) (r r' : RL) (w : World) (h : RRow w a b c d r) (h' : RRow w a' b' c' d' r') (hs : SameRL r r') :
    Calls Tryd.prog 28 #[.agg #[a, b, c, d], .agg #[a', b', c', d']] w (YesB w) := by
  have R := Lib.hid (fun w1 (hb : Below w.heap.size w w1) => h.below hb)
  have R' := Lib.hid (fun w1 (hb : Below w.heap.size w w1) => h'.below hb)
  have S := Lib.hid hs
  clear h h' hs
  go_enter Tryd.func28, Tryd.ntmps28
  go_wp2_with fail
  refine (eqF_any a a' _ _ _ (R.out _ (by first | exact below_al2 _ _ _ | exact below_drewN (below_al2 _ _ _) _)).W (R'.out _ (by first | exact below_al2 _ _ _ | exact below_drewN (below_al2 _ _ _) _)).W S.out.W).mono ?_
  rintro _ _ ⟨rfl, n1, rfl⟩
  go_wp2_with fail
  refine (eqF_any b b' _ _ _ (R.out _ (by first | exact below_al2 _ _ _ | exact below_drewN (below_al2 _ _ _) _)).E (R'.out _ (by first | exact below_al2 _ _ _ | exact below_drewN (below_al2 _ _ _) _)).E S.out.E).mono ?_
  rintro _ _ ⟨rfl, n2, rfl⟩
  go_wp2_with fail
  refine (eqF_any c c' _ _ _ (R.out _ (by first | exact below_al2 _ _ _ | exact below_drewN (below_al2 _ _ _) _)).H (R'.out _ (by first | exact below_al2 _ _ _ | exact below_drewN (below_al2 _ _ _) _)).H S.out.H).mono ?_
  rintro _ _ ⟨rfl, n3, rfl⟩
  go_wp2_with fail
  refine (eqF_any d d' _ _ _ (R.out _ (by first | exact below_al2 _ _ _ | exact below_drewN (below_al2 _ _ _) _)).T (R'.out _ (by first | exact below_al2 _ _ _ | exact below_drewN (below_al2 _ _ _) _)).T S.out.T).mono ?_
  rintro _ _ ⟨rfl, n4, rfl⟩
  go_wp2
  go_ret
  exact ⟨rfl, (by first | exact below_al2 _ _ _ | exact below_drewN (below_al2 _ _ _) _)⟩

end Go.Proofs.YtncjkhdnpioinaaDoor

/- Rods of a call's own: four lists that lie apart; the laws' marks on them. -/
namespace Go.Proofs.YtncjkhdnpioinaaDoor
open Go.RowKit
set_option linter.unusedVariables false

/-- four lists of a call's own, made since h, that lie apart -/
def RodO (h : Nat) (w : World) (a b c d : Value) (r : RL) : Prop :=
  ∃ i0 i1 i2 i3 i4, h ≤ i0 ∧ i0 ≤ i1 ∧ i1 ≤ i2 ∧ i2 ≤ i3 ∧ i3 ≤ i4 ∧ i4 ≤ w.heap.size ∧ OIn i0 i1 w a r.W ∧ OIn i1 i2 w b r.E ∧ OIn i2 i3 w c r.H ∧ OIn i3 i4 w d r.T
theorem RodO.kept {h : Nat} {w w' : World} {a b c d : Value} {r : RL} (H : RodO h w a b c d r) (hb : Below w.heap.size w w') : RodO h w' a b c d r := by
  obtain ⟨i0, i1, i2, i3, i4, g0, g1, g2, g3, g4, g5, A, B, C, D⟩ := H
  exact ⟨i0, i1, i2, i3, i4, g0, g1, g2, g3, g4, Nat.le_trans g5 hb.size, A.kept hb, B.kept hb, C.kept hb, D.kept hb⟩
theorem RodO.mono {h h' : Nat} {w : World} {a b c d : Value} {r : RL} (H : RodO h w a b c d r) (hh : h' ≤ h) : RodO h' w a b c d r := by
  obtain ⟨i0, i1, i2, i3, i4, g0, g⟩ := H
  exact ⟨i0, i1, i2, i3, i4, Nat.le_trans hh g0, g⟩
theorem RodO.far {h p : Nat} {w w' : World} {a b c d : Value} {r : RL} (H : RodO h w a b c d r) (t : Tur (· = p) w w') (hp : p < h) : RodO h w' a b c d r := by
  obtain ⟨i0, i1, i2, i3, i4, g0, g1, g2, g3, g4, g5, A, B, C, D⟩ := H
  exact ⟨i0, i1, i2, i3, i4, g0, g1, g2, g3, g4, Nat.le_trans g5 t.size, A.tur t (fun j _ _ e => by omega), B.tur t (fun j _ _ e => by omega), C.tur t (fun j _ _ e => by omega), D.tur t (fun j _ _ e => by omega)⟩
theorem RodO.rrow {h : Nat} {w : World} {a b c d : Value} {r : RL} (H : RodO h w a b c d r) (hl : r.size ≤ 1048576) : RRow w a b c d r := by
  obtain ⟨i0, i1, i2, i3, i4, _, _, _, _, _, _, A, B, C, D⟩ := H
  have hx : maxLen = 9223372036854775807 := rfl
  unfold RL.size at hl
  exact ⟨A.frow (by omega), B.frow (by omega), C.frow (by omega), D.frow (by omega)⟩
theorem RodO.shapes {h : Nat} {w : World} {a b c d : Value} {r : RL} (H : RodO h w a b c d r) : (∃ x k, a = .slice x r.W.length k) ∧ (∃ x k, b = .slice x r.E.length k) ∧ (∃ x k, c = .slice x r.H.length k) ∧ ∃ x k, d = .slice x r.T.length k := by
  obtain ⟨i0, i1, i2, i3, i4, _, _, _, _, _, _, A, B, C, D⟩ := H
  exact ⟨A.shape, B.shape, C.shape, D.shape⟩
theorem RodO.nil {h : Nat} {w : World} (hh : h ≤ w.heap.size) : RodO h w (.slice none 0 0) (.slice none 0 0) (.slice none 0 0) (.slice none 0 0) ⟨[], [], [], []⟩ :=
  ⟨w.heap.size, w.heap.size, w.heap.size, w.heap.size, w.heap.size, hh, Nat.le_refl _, Nat.le_refl _, Nat.le_refl _, Nat.le_refl _, Nat.le_refl _, .inl ⟨⟨_, _, rfl⟩, rfl⟩, .inl ⟨⟨_, _, rfl⟩, rfl⟩, .inl ⟨⟨_, _, rfl⟩, rfl⟩, .inl ⟨⟨_, _, rfl⟩, rfl⟩⟩
/-- .. in blocks below u -/
def RodU (h u : Nat) (w : World) (a b c d : Value) (r : RL) : Prop :=
  ∃ i0 i1 i2 i3 i4, h ≤ i0 ∧ i0 ≤ i1 ∧ i1 ≤ i2 ∧ i2 ≤ i3 ∧ i3 ≤ i4 ∧ i4 ≤ u ∧ OIn i0 i1 w a r.W ∧ OIn i1 i2 w b r.E ∧ OIn i2 i3 w c r.H ∧ OIn i3 i4 w d r.T
theorem RodO.toU {h : Nat} {w : World} {a b c d : Value} {r : RL} (H : RodO h w a b c d r) : RodU h w.heap.size w a b c d r := H
theorem RodU.kept {h u : Nat} {w w' : World} {a b c d : Value} {r : RL} (H : RodU h u w a b c d r) (hb : Below w.heap.size w w') : RodU h u w' a b c d r := by
  obtain ⟨i0, i1, i2, i3, i4, g0, g1, g2, g3, g4, g5, A, B, C, D⟩ := H
  exact ⟨i0, i1, i2, i3, i4, g0, g1, g2, g3, g4, g5, A.kept hb, B.kept hb, C.kept hb, D.kept hb⟩
theorem RodU.rrow {h u : Nat} {w : World} {a b c d : Value} {r : RL} (H : RodU h u w a b c d r) (hl : r.size ≤ 1048576) : RRow w a b c d r := by
  obtain ⟨i0, i1, i2, i3, i4, _, _, _, _, _, _, A, B, C, D⟩ := H
  have hx : maxLen = 9223372036854775807 := rfl
  unfold RL.size at hl
  exact ⟨A.frow (by omega), B.frow (by omega), C.frow (by omega), D.frow (by omega)⟩
theorem RodU.shapes {h u : Nat} {w : World} {a b c d : Value} {r : RL} (H : RodU h u w a b c d r) : (∃ x k, a = .slice x r.W.length k) ∧ (∃ x k, b = .slice x r.E.length k) ∧ (∃ x k, c = .slice x r.H.length k) ∧ ∃ x k, d = .slice x r.T.length k := by
  obtain ⟨i0, i1, i2, i3, i4, _, _, _, _, _, _, A, B, C, D⟩ := H
  exact ⟨A.shape, B.shape, C.shape, D.shape⟩
def mksR (r : RL) : RL := ⟨mksK 1 r.W.length, mksK (1 + r.W.length) r.E.length, mksK (1 + r.W.length + r.E.length) r.H.length, mksK (1 + r.W.length + r.E.length + r.H.length) r.T.length⟩

set_option maxHeartbeats 3200000 in
set_option maxRecDepth 8000 in
theorem markRodU {h u : Nat} {a b c d : Value} {r : RL} {w : World} (H : RodU h u w a b c d r) (hu : u ≤ w.heap.size) (hl : r.size ≤ 300) :
    Calls Tryd.prog 29 #[.agg #[a, b, c, d], .int .i64 1] w fun e w' => e = .returned (.int .i64 ((1 + r.size : Nat) : Int)) ∧ RodU h u w' a b c d (mksR r) ∧ Tur (Rg h u) w w' := by
  obtain ⟨⟨xa, ka, ea⟩, ⟨xb, kb, eb⟩, ⟨xc, kc, ec⟩, ⟨xd, kd, ed⟩⟩ := H.shapes
  obtain ⟨i0, i1, i2, i3, i4, g0, g1, g2, g3, g4, g5, A, B, C, D⟩ := H
  have SZ : Hid (1 + r.W.length + r.E.length + r.H.length + r.T.length = 1 + r.size) := Lib.hid (by unfold RL.size; omega)
  unfold RL.size at hl
  have GG := Lib.hid (And.intro g0 (And.intro g1 (And.intro g2 (And.intro g3 (And.intro g4 (And.intro g5 hu))))))
  have B0 := below_al1 w (.cells [a, b, c, d].toArray 41)
  have A0 := Lib.hid (A.kept B0)
  have A1 := Lib.hid (B.kept B0)
  have A2 := Lib.hid (C.kept B0)
  have A3 := Lib.hid (D.kept B0)
  have X := Lib.hid (Cells.made w [a, b, c, d] 41)
  have BB := Lib.hid B0
  have T0 := Lib.hid (Tur.of_below (S := Rg h u) B0)
  clear A B C D g0 g1 g2 g3 g4 g5 hu B0
  have LW : Hid (r.W.length ≤ 300) := Lib.hid (by omega)
  have LE : Hid (r.W.length + r.E.length ≤ 300) := Lib.hid (by omega)
  have LH : Hid (r.W.length + r.E.length + r.H.length ≤ 300) := Lib.hid (by omega)
  have LT : Hid (r.W.length + r.E.length + r.H.length + r.T.length ≤ 300) := Lib.hid hl
  subst ea eb ec ed
  have x0 := X.out.at 0 rfl; have x1 := X.out.at 1 rfl; have x2 := X.out.at 2 rfl; have x3 := X.out.at 3 rfl
  clear hl
  go_enter Tryd.func29, Tryd.ntmps29
  go_wp2_with fail
  refine (markIn (k := 1) A0.out (by have := LW.out; omega) (by omega)).mono ?_
  rintro e w1 ⟨rfl, hO, ht⟩
  have M0 := Lib.hid hO
  obtain ⟨g0, g1, g2, g3, g4, g5, g6⟩ := GG.out
  have A1 := Lib.hid (A1.out.tur ht (fun j h1 h2 h3 => by have e : i0 ≤ j ∧ j < i1 := h3; omega))
  have A2 := Lib.hid (A2.out.tur ht (fun j h1 h2 h3 => by have e : i0 ≤ j ∧ j < i1 := h3; omega))
  have A3 := Lib.hid (A3.out.tur ht (fun j h1 h2 h3 => by have e : i0 ≤ j ∧ j < i1 := h3; omega))
  have X := Lib.hid (ht.cells X.out (by intro h3; have e : i0 ≤ w.heap.size ∧ w.heap.size < i1 := h3; omega))
  have T0 := Lib.hid (T0.out.trans ⟨ht.os, ht.tape, ht.output, ht.size, fun k hk hs => ht.block k hk (fun h3 => hs (by have e : i0 ≤ k ∧ k < i1 := h3; exact ⟨by omega, by omega⟩))⟩)
  clear hO ht g0 g1 g2 g3 g4 g5 g6 x0 x1 x2 x3
  have x0 := X.out.at 0 rfl; have x1 := X.out.at 1 rfl; have x2 := X.out.at 2 rfl; have x3 := X.out.at 3 rfl
  go_wp2_with fail
  refine (markIn (k := (1 + r.W.length)) A1.out (by have := LE.out; omega) (by have := LW.out; omega)).mono ?_
  rintro e w2 ⟨rfl, hO, ht⟩
  have M1 := Lib.hid hO
  obtain ⟨g0, g1, g2, g3, g4, g5, g6⟩ := GG.out
  have M0 := Lib.hid (M0.out.tur ht (fun j h1 h2 h3 => by have e : i1 ≤ j ∧ j < i2 := h3; omega))
  have A2 := Lib.hid (A2.out.tur ht (fun j h1 h2 h3 => by have e : i1 ≤ j ∧ j < i2 := h3; omega))
  have A3 := Lib.hid (A3.out.tur ht (fun j h1 h2 h3 => by have e : i1 ≤ j ∧ j < i2 := h3; omega))
  have X := Lib.hid (ht.cells X.out (by intro h3; have e : i1 ≤ w.heap.size ∧ w.heap.size < i2 := h3; omega))
  have T0 := Lib.hid (T0.out.trans ⟨ht.os, ht.tape, ht.output, ht.size, fun k hk hs => ht.block k hk (fun h3 => hs (by have e : i1 ≤ k ∧ k < i2 := h3; exact ⟨by omega, by omega⟩))⟩)
  clear hO ht g0 g1 g2 g3 g4 g5 g6 x0 x1 x2 x3
  have x0 := X.out.at 0 rfl; have x1 := X.out.at 1 rfl; have x2 := X.out.at 2 rfl; have x3 := X.out.at 3 rfl
  go_wp2_with fail
  refine (markIn (k := (1 + r.W.length + r.E.length)) A2.out (by have := LH.out; omega) (by have := LE.out; omega)).mono ?_
  rintro e w3 ⟨rfl, hO, ht⟩
  have M2 := Lib.hid hO
  obtain ⟨g0, g1, g2, g3, g4, g5, g6⟩ := GG.out
  have M0 := Lib.hid (M0.out.tur ht (fun j h1 h2 h3 => by have e : i2 ≤ j ∧ j < i3 := h3; omega))
  have M1 := Lib.hid (M1.out.tur ht (fun j h1 h2 h3 => by have e : i2 ≤ j ∧ j < i3 := h3; omega))
  have A3 := Lib.hid (A3.out.tur ht (fun j h1 h2 h3 => by have e : i2 ≤ j ∧ j < i3 := h3; omega))
  have X := Lib.hid (ht.cells X.out (by intro h3; have e : i2 ≤ w.heap.size ∧ w.heap.size < i3 := h3; omega))
  have T0 := Lib.hid (T0.out.trans ⟨ht.os, ht.tape, ht.output, ht.size, fun k hk hs => ht.block k hk (fun h3 => hs (by have e : i2 ≤ k ∧ k < i3 := h3; exact ⟨by omega, by omega⟩))⟩)
  clear hO ht g0 g1 g2 g3 g4 g5 g6 x0 x1 x2 x3
  have x0 := X.out.at 0 rfl; have x1 := X.out.at 1 rfl; have x2 := X.out.at 2 rfl; have x3 := X.out.at 3 rfl
  go_wp2_with fail
  refine (markIn (k := (1 + r.W.length + r.E.length + r.H.length)) A3.out (by have := LT.out; omega) (by have := LH.out; omega)).mono ?_
  rintro e w4 ⟨rfl, hO, ht⟩
  have M3 := Lib.hid hO
  obtain ⟨g0, g1, g2, g3, g4, g5, g6⟩ := GG.out
  have M0 := Lib.hid (M0.out.tur ht (fun j h1 h2 h3 => by have e : i3 ≤ j ∧ j < i4 := h3; omega))
  have M1 := Lib.hid (M1.out.tur ht (fun j h1 h2 h3 => by have e : i3 ≤ j ∧ j < i4 := h3; omega))
  have M2 := Lib.hid (M2.out.tur ht (fun j h1 h2 h3 => by have e : i3 ≤ j ∧ j < i4 := h3; omega))
  have X := Lib.hid (ht.cells X.out (by intro h3; have e : i3 ≤ w.heap.size ∧ w.heap.size < i4 := h3; omega))
  have T0 := Lib.hid (T0.out.trans ⟨ht.os, ht.tape, ht.output, ht.size, fun k hk hs => ht.block k hk (fun h3 => hs (by have e : i3 ≤ k ∧ k < i4 := h3; exact ⟨by omega, by omega⟩))⟩)
  clear hO ht g0 g1 g2 g3 g4 g5 g6 x0 x1 x2 x3
  have x0 := X.out.at 0 rfl; have x1 := X.out.at 1 rfl; have x2 := X.out.at 2 rfl; have x3 := X.out.at 3 rfl
  go_wp2
  go_ret
  obtain ⟨g0, g1, g2, g3, g4, g5, g6⟩ := GG.out
  refine ⟨by rw [← SZ.out]; rfl, ⟨i0, i1, i2, i3, i4, g0, g1, g2, g3, g4, g5, ?_, ?_, ?_, ?_⟩, T0.out⟩
  · simpa [mksR, mksK_length] using M0.out
  · simpa [mksR, mksK_length] using M1.out
  · simpa [mksR, mksK_length] using M2.out
  · simpa [mksR, mksK_length] using M3.out
set_option maxHeartbeats 3200000 in
set_option maxRecDepth 8000 in
theorem heldRodU {h u : Nat} {a b c d : Value} {r : RL} {w : World} (H : RodU h u w a b c d (mksR r)) (hu : u ≤ w.heap.size) (hl : r.size ≤ 300) :
    Calls Tryd.prog 30 #[.agg #[a, b, c, d], .int .i64 1] w fun e w' => e = .returned (.int .i64 ((1 + r.size : Nat) : Int)) ∧ Below w.heap.size w w' := by
  obtain ⟨⟨xa, ka, ea⟩, ⟨xb, kb, eb⟩, ⟨xc, kc, ec⟩, ⟨xd, kd, ed⟩⟩ := H.shapes
  obtain ⟨i0, i1, i2, i3, i4, g0, g1, g2, g3, g4, g5, A, B, C, D⟩ := H
  have SZ : Hid (1 + r.W.length + r.E.length + r.H.length + r.T.length = 1 + r.size) := Lib.hid (by unfold RL.size; omega)
  unfold RL.size at hl
  have GG := Lib.hid (And.intro g0 (And.intro g1 (And.intro g2 (And.intro g3 (And.intro g4 (And.intro g5 hu))))))
  have B0 := below_al1 w (.cells [a, b, c, d].toArray 41)
  have A0 := Lib.hid (A.kept B0)
  have A1 := Lib.hid (B.kept B0)
  have A2 := Lib.hid (C.kept B0)
  have A3 := Lib.hid (D.kept B0)
  have X := Lib.hid (Cells.made w [a, b, c, d] 41)
  have BB := Lib.hid B0
  clear A B C D g0 g1 g2 g3 g4 g5 hu B0
  have LW : Hid (r.W.length ≤ 300) := Lib.hid (by omega)
  have LE : Hid (r.W.length + r.E.length ≤ 300) := Lib.hid (by omega)
  have LH : Hid (r.W.length + r.E.length + r.H.length ≤ 300) := Lib.hid (by omega)
  have LT : Hid (r.W.length + r.E.length + r.H.length + r.T.length ≤ 300) := Lib.hid hl
  subst ea eb ec ed
  have x0 := X.out.at 0 rfl; have x1 := X.out.at 1 rfl; have x2 := X.out.at 2 rfl; have x3 := X.out.at 3 rfl
  clear hl
  go_enter Tryd.func30, Tryd.ntmps30
  go_wp2_with fail
  refine (heldIn (k := 1) A0.out (by have := LW.out; omega)).mono ?_
  rintro e w1 ⟨rfl, rfl⟩
  go_wp2_with fail
  refine (heldIn (k := (1 + r.W.length)) A1.out (by have := LE.out; omega)).mono ?_
  rintro e w2 ⟨rfl, rfl⟩
  go_wp2_with fail
  refine (heldIn (k := (1 + r.W.length + r.E.length)) A2.out (by have := LH.out; omega)).mono ?_
  rintro e w3 ⟨rfl, rfl⟩
  go_wp2_with fail
  refine (heldIn (k := (1 + r.W.length + r.E.length + r.H.length)) A3.out (by have := LT.out; omega)).mono ?_
  rintro e w4 ⟨rfl, rfl⟩
  go_wp2
  go_ret
  exact ⟨by rw [← SZ.out]; rfl, BB.out⟩
end Go.Proofs.YtncjkhdnpioinaaDoor

/- Whether a rod is valid, as the specification tells. -/
namespace Go.Proofs.YtncjkhdnpioinaaDoor
open Go.RowKit

def okAt (r : RL) (k : Nat) : Bool := pos (r.W.getD k 0) && pos (r.E.getD k 0) && pos (r.H.getD k 0) && fin .f32 (r.T.getD k 0)
def lensOk (r : RL) : Bool := decide (1 ≤ r.W.length) && decide (r.W.length ≤ 48) && (r.E.length == r.W.length) && (r.H.length == r.W.length) && (r.T.length == r.W.length)
def vRod (r : RL) : Bool := lensOk r && (List.range r.W.length).all (okAt r)

theorem vRod_no {r : RL} (hl : lensOk r = true) {k : Nat} (hk : k < r.W.length) (h : okAt r k = false) : vRod r = false := by
  unfold vRod
  rw [hl, Bool.true_and, List.all_eq_false]
  exact ⟨k, by simpa using hk, by simp [h]⟩
theorem vRod_yes {r : RL} (hl : lensOk r = true) (h : ∀ j, j < r.W.length → okAt r j = true) : vRod r = true := by
  unfold vRod
  rw [hl, Bool.true_and, List.all_eq_true]
  intro x hx
  exact h x (by simpa using hx)

theorem specIs_len (a b c d : Value) (r : RL) (p : Nat) (w : World) (A : Cells w p [a, b, c, d]) (h : RRow w a b c d r) (hl : lensOk r = false) :
    Calls Tryd.prog 154 #[.pointer (some ⟨p, 0, none⟩)] w (Bol false w) := by
  have c0 := A.at 0 rfl
  have c1 := A.at 1 rfl
  have c2 := A.at 2 rfl
  have c3 := A.at 3 rfl
  have N1 := h.W.len
  obtain ⟨a1, a2, rfl⟩ := h.W.shape
  obtain ⟨b1, b2, rfl⟩ := h.E.shape
  obtain ⟨d1, d2, rfl⟩ := h.H.shape
  obtain ⟨e1, e2, rfl⟩ := h.T.shape
  clear A h
  unfold lensOk at hl
  generalize r.W.length = n at *
  generalize r.E.length = m1 at *
  generalize r.H.length = m2 at *
  generalize r.T.length = m3 at *
  by_cases g1 : 1 ≤ n
  · by_cases g2 : n ≤ 48
    · have f1 : decide ((n : Int) < 1) = false := by simp; omega
      have f2 : decide ((48 : Int) < n) = false := by simp; omega
      by_cases g3 : m1 = n
      · subst g3
        by_cases g4 : m2 = m1
        · subst g4
          have g5 : ¬ m3 = m2 := by simpa [g1, g2] using hl
          have f5 : ((m3 : Int) == (m2 : Int)) = false := by simp; omega
          have f5' : ((m3 : Int) != (m2 : Int)) = true := by simp; omega
          clear hl
          go_enter Tryd.func154, Tryd.ntmps154
          go_wp2
          go_ret
          exact ⟨rfl, 0, rfl⟩
        · have f4 : ((m2 : Int) == (m1 : Int)) = false := by simp; omega
          have f4' : ((m2 : Int) != (m1 : Int)) = true := by simp; omega
          clear hl
          go_enter Tryd.func154, Tryd.ntmps154
          go_wp2
          go_ret
          exact ⟨rfl, 0, rfl⟩
      · have f3 : ((m1 : Int) == (n : Int)) = false := by simp; omega
        have f3' : ((m1 : Int) != (n : Int)) = true := by simp; omega
        clear hl
        go_enter Tryd.func154, Tryd.ntmps154
        go_wp2
        go_ret
        exact ⟨rfl, 0, rfl⟩
    · have f1 : decide ((n : Int) < 1) = false := by simp; omega
      have f2 : decide ((48 : Int) < n) = true := by simp; omega
      clear hl
      go_enter Tryd.func154, Tryd.ntmps154
      go_wp2
      go_ret
      exact ⟨rfl, 0, rfl⟩
  · have f1 : decide ((n : Int) < 1) = true := by simp; omega
    clear hl
    go_enter Tryd.func154, Tryd.ntmps154
    go_wp2
    go_ret
    exact ⟨rfl, 0, rfl⟩

set_option maxHeartbeats 1600000 in
theorem specIs_ok (a b c d : Value) (r : RL) (p : Nat) (w : World) (A : Cells w p [a, b, c, d]) (h : RRow w a b c d r) (hl : lensOk r = true) :
    Calls Tryd.prog 154 #[.pointer (some ⟨p, 0, none⟩)] w (Bol (vRod r) w) := by
  have c0 := A.at 0 rfl
  have c1 := A.at 1 rfl
  have c2 := A.at 2 rfl
  have c3 := A.at 3 rfl
  have VN := Lib.hid (fun k (hk : k < r.W.length) (h : okAt r k = false) => vRod_no hl hk h)
  have VY := Lib.hid (fun h => vRod_yes hl h)
  have OK : Hid (∀ k, okAt r k = (pos (r.W.getD k 0) && pos (r.E.getD k 0) && pos (r.H.getD k 0) && fin .f32 (r.T.getD k 0))) := Lib.hid (fun k => rfl)
  obtain ⟨⟨⟨⟨g1, g2⟩, g3⟩, g4⟩, g5⟩ : (((1 ≤ r.W.length ∧ r.W.length ≤ 48) ∧ r.E.length = r.W.length) ∧ r.H.length = r.W.length) ∧ r.T.length = r.W.length := by simpa [lensOk] using hl
  obtain ⟨b0, o0, k0, rfl, h0⟩ := h.W.cells g1
  obtain ⟨b1, o1, k1, rfl, h1⟩ := h.E.cells (by omega)
  obtain ⟨b2, o2, k2, rfl, h2⟩ := h.H.cells (by omega)
  obtain ⟨b3, o3, k3, rfl, h3⟩ := h.T.cells (by omega)
  rw [g3] at h1 c1
  rw [g4] at h2 c2
  rw [g5] at h3 c3
  clear A h hl g3 g4 g5
  generalize r.W.length = n at *
  have f1 : decide ((n : Int) < 1) = false := by simp; omega
  have f2 : decide ((48 : Int) < n) = false := by simp; omega
  have G := Lib.hid g2
  clear g1 g2
  go_enter Tryd.func154, Tryd.ntmps154
  go_wp2
  go_loopw [4] (fun i wr => ∃ k q : Nat, k ≤ n ∧ i = .int .i64 k ∧ Hid (∀ j, j < k → okAt r j = true) ∧ wr = w.drewN q) (fun i _ => n - (intOf i).toNat)
  case atStart => exact ⟨0, 0, Nat.zero_le _, rfl, Lib.hid (fun j hj => absurd hj (Nat.not_lt_zero _)), rfl⟩
  case round =>
    obtain ⟨k, q, hk, rfl, hall, rfl⟩ := hrel
    by_cases hlt : k < n
    · have z0 := h0 k hlt
      have z1 := h1 k hlt
      have z2 := h2 k hlt
      have z3 := h3 k hlt
      have hG := G.out
      have hi : (0 : Int) ≤ (k : Int) := by omega
      have hi' : (k : Int) < (n : Int) := by omega
      have VNk := Lib.hid (VN.out k hlt)
      clear h0 h1 h2 h3
      have O := Lib.hid (OK.out k)
      generalize hy0 : (r.W.getD k 0) = y0 at *
      generalize hy1 : (r.E.getD k 0) = y1 at *
      generalize hy2 : (r.H.getD k 0) = y2 at *
      generalize hy3 : (r.T.getD k 0) = y3 at *
      clear hy0 hy1 hy2 hy3
      cases B0 : pos y0
      · have O' := Lib.hid (VNk.out (by rw [O.out]; simp [B0]))
        clear O
        go_wp2_with (first | (go_at_call_of 163 y0; refine (specAbove_any y0 _).mono ?_; rw [B0]; rintro e w' ⟨rfl, n0, rfl⟩))
        go_ret
        exact ⟨ret_b O'.out, _, rfl⟩
      · cases B1 : pos y1
        · have O' := Lib.hid (VNk.out (by rw [O.out]; simp [B0, B1]))
          clear O
          go_wp2_with (first | (go_at_call_of 163 y0; refine (specAbove_any y0 _).mono ?_; rw [B0]; rintro e w' ⟨rfl, n0, rfl⟩) | (go_at_call_of 163 y1; refine (specAbove_any y1 _).mono ?_; rw [B1]; rintro e w' ⟨rfl, n1, rfl⟩))
          go_ret
          exact ⟨ret_b O'.out, _, rfl⟩
        · cases B2 : pos y2
          · have O' := Lib.hid (VNk.out (by rw [O.out]; simp [B0, B1, B2]))
            clear O
            go_wp2_with (first | (go_at_call_of 163 y0; refine (specAbove_any y0 _).mono ?_; rw [B0]; rintro e w' ⟨rfl, n0, rfl⟩) | (go_at_call_of 163 y1; refine (specAbove_any y1 _).mono ?_; rw [B1]; rintro e w' ⟨rfl, n1, rfl⟩) | (go_at_call_of 163 y2; refine (specAbove_any y2 _).mono ?_; rw [B2]; rintro e w' ⟨rfl, n2, rfl⟩))
            go_ret
            exact ⟨ret_b O'.out, _, rfl⟩
          · cases B3 : fin .f32 y3
            · have O' := Lib.hid (VNk.out (by rw [O.out]; simp [B0, B1, B2, B3]))
              clear O
              go_wp2_with (first | (go_at_call_of 163 y0; refine (specAbove_any y0 _).mono ?_; rw [B0]; rintro e w' ⟨rfl, n0, rfl⟩) | (go_at_call_of 163 y1; refine (specAbove_any y1 _).mono ?_; rw [B1]; rintro e w' ⟨rfl, n1, rfl⟩) | (go_at_call_of 163 y2; refine (specAbove_any y2 _).mono ?_; rw [B2]; rintro e w' ⟨rfl, n2, rfl⟩) | (go_at_call_of 162 y3; refine (specFinite_any y3 _).mono ?_; rw [B3]; rintro e w' ⟨rfl, n3, rfl⟩))
              go_ret
              exact ⟨ret_b O'.out, _, rfl⟩
            · have O' := Lib.hid (show okAt r k = true by rw [O.out]; simp [B0, B1, B2, B3])
              clear O
              go_wp2_with (first | (go_at_call_of 163 y0; refine (specAbove_any y0 _).mono ?_; rw [B0]; rintro e w' ⟨rfl, n0, rfl⟩) | (go_at_call_of 163 y1; refine (specAbove_any y1 _).mono ?_; rw [B1]; rintro e w' ⟨rfl, n1, rfl⟩) | (go_at_call_of 163 y2; refine (specAbove_any y2 _).mono ?_; rw [B2]; rintro e w' ⟨rfl, n2, rfl⟩) | (go_at_call_of 162 y3; refine (specFinite_any y3 _).mono ?_; rw [B3]; rintro e w' ⟨rfl, n3, rfl⟩))
              go_roundw
              case rel => exact ⟨k + 1, _, by omega, by go_num, Lib.hid (fun j hj => by rcases Nat.lt_succ_iff_lt_or_eq.1 hj with h | h; exact hall.out j h; subst h; exact O'.out), rfl⟩
              case measure => simp [intOf]; omega
    · have e := Lib.hid (show k = n by omega)
      clear h0 h1 h2 h3
      go_wp2
      go_ret
      have := e.out
      subst this
      exact ⟨ret_b (VY.out hall.out), _, rfl⟩

theorem specIs_any (a b c d : Value) (r : RL) (p : Nat) (w : World) (A : Cells w p [a, b, c, d]) (h : RRow w a b c d r) :
    Calls Tryd.prog 154 #[.pointer (some ⟨p, 0, none⟩)] w (Bol (vRod r) w) := by
  cases hl : lensOk r
  · have : vRod r = false := by simp [vRod, hl]
    rw [this]
    exact specIs_len a b c d r p w A h hl
  · exact specIs_ok a b c d r p w A h hl

end Go.Proofs.YtncjkhdnpioinaaDoor

/- Whether all numbers of a list are are finite. -/
namespace Go.Proofs.YtncjkhdnpioinaaDoor
open Go.RowKit

/-- an index, or -1 -/
def Idx (b : Bool) (w : World) (e : Ending) (w' : World) : Prop := ∃ i : Int, e = .returned (.int .i64 i) ∧ decide (0 ≤ i) = b ∧ ∃ n, w' = w.drewN n
theorem any_some {f : Nat → Bool} {zs : List Nat} {k : Nat} (hk : k < zs.length) (h : f (zs.getD k 0) = true) : zs.any f = true := by
  rw [List.any_eq_true]
  refine ⟨zs.getD k 0, ?_, h⟩
  simp [List.getD_eq_getElem?_getD, hk]
theorem not_any_not (f : Nat → Bool) (zs : List Nat) : (!(zs.any (fun z => !(f z)))) = zs.all f := by
  induction zs with
  | nil => rfl
  | cons x xs ih => simp only [List.any_cons, List.all_cons, ← ih]; cases f x <;> simp
theorem any_none {f : Nat → Bool} {zs : List Nat} (h : ∀ k, k < zs.length → f (zs.getD k 0) = false) : zs.any f = false := by
  rw [List.any_eq_false]
  intro x hx
  obtain ⟨i, hi, rfl⟩ := List.mem_iff_getElem.1 hx
  have := h i hi
  simpa [List.getD_eq_getElem?_getD, hi] using this

theorem litFin_any (y q : Nat) (w : World) (hq : w.cell? ⟨q, 0, none⟩ = some (.func (.func 117) #[] #[])) :
    Calls Tryd.prog 158 #[.float .f32 y, .pointer (some ⟨q, 0, none⟩)] w (Bol (!(fin .f32 y)) w) := by
  go_enter Tryd.func158, Tryd.ntmps158
  go_wp2_with (go_at_call 117; refine (implFinite_any _ _).mono ?_; rintro e w' ⟨rfl, n, rfl⟩)
  go_ret
  exact ⟨rfl, _, rfl⟩

theorem idxFin_any (v : Value) (zs : List Nat) (q : Nat) (w : World) (h : FRow w v zs) (hq : w.cell? ⟨q, 0, none⟩ = some (.func (.func 117) #[] #[])) :
    Calls Tryd.prog 187 #[v, .func (.func 158) #[] #[.pointer (some ⟨q, 0, none⟩)]] w (Idx (zs.any (fun z => !(fin .f32 z))) w) := by
  have VS := Lib.hid (fun k (hk : k < zs.length) (h : (!(fin .f32 (zs.getD k 0))) = true) => any_some (f := fun z => !(fin .f32 z)) hk h)
  have VN := Lib.hid (fun h => any_none (f := fun z => !(fin .f32 z)) (zs := zs) h)
  have HC := Lib.hid (fun (hn : 1 ≤ zs.length) => h.cells hn)
  have HL := Lib.hid h.len
  obtain ⟨a, cap, rfl⟩ := h.shape
  clear h
  generalize hb : zs.any (fun z => !(fin .f32 z)) = b at *
  clear hb
  have HG : Hid (∀ k, zs.getD k 0 = zs.getD k 0) := Lib.hid (fun k => rfl)
  generalize hn : zs.length = n at *
  clear hn
  go_enter Tryd.func187, Tryd.ntmps187
  go_wp2
  go_loopw [5, 8] (fun _ i wr => ∃ k q : Nat, k ≤ n ∧ i = .int .i64 k ∧ Hid (∀ j, j < k → (!(fin .f32 (zs.getD j 0))) = false) ∧ wr = w.drewN q) (fun _ i _ => n - (intOf i).toNat)
  case atStart => exact ⟨0, 0, Nat.zero_le _, rfl, Lib.hid (fun j hj => absurd hj (Nat.not_lt_zero _)), rfl⟩
  case round =>
    obtain ⟨k, q, hk, rfl, hall, rfl⟩ := hrel
    by_cases hlt : k < n
    · obtain ⟨b0, o0, cap', e, hc⟩ := HC.out (by omega)
      have ea : a = some ⟨b0, o0, none⟩ := by cases e; rfl
      have z0 := hc k hlt
      have VSk := Lib.hid (VS.out k hlt)
      clear e hc
      subst ea
      have hG := HL.out
      have hi : (0 : Int) ≤ (k : Int) := by omega
      have hi' : (k : Int) < (n : Int) := by omega
      generalize hy : zs.getD k 0 = y at *
      cases B : fin .f32 y
      · have V := Lib.hid (VSk.out (by rw [B]; rfl))
        go_wp2_with (go_at_call 158; refine (litFin_any y _ _ (by simpa using hq)).mono ?_; rw [B]; rintro e w' ⟨rfl, n, rfl⟩)
        go_ret
        exact ⟨_, rfl, by rw [V.out]; simp, _, rfl⟩
      · have V := Lib.hid (show (!(fin .f32 (zs.getD k 0))) = false by rw [hy, B]; rfl)
        clear hy
        go_wp2_with (go_at_call 158; refine (litFin_any y _ _ (by simpa using hq)).mono ?_; rw [B]; rintro e w' ⟨rfl, n, rfl⟩)
        go_roundw
        case rel => exact ⟨k + 1, _, by omega, by go_num, Lib.hid (fun j hj => by rcases Nat.lt_succ_iff_lt_or_eq.1 hj with h | h; exact hall.out j h; subst h; exact V.out), rfl⟩
        case measure => simp [intOf]; omega
    · have e := Lib.hid (show k = n by omega)
      go_wp2
      go_ret
      have := e.out
      subst this
      exact ⟨_, rfl, by rw [VN.out hall.out]; rfl, _, rfl⟩

theorem allFin_any (v : Value) (zs : List Nat) (w : World) (h : FRow w v zs) : Calls Tryd.prog 115 #[v, .func (.func 117) #[] #[]] w (BolB (zs.all (fin .f32)) w) := by
  have H := Lib.hid (h.below (below_al1 w (.cells [Value.func (.func 117) #[] #[]].toArray 154)))
  have e := Lib.hid (show (!(zs.any (fun z => !(fin .f32 z)))) = zs.all (fin .f32) from not_any_not _ _)
  clear h
  go_enter Tryd.func115, Tryd.ntmps115
  go_wp2_with (first | (go_at_call 187; refine (idxFin_any _ zs _ _ H.out (by simp)).mono ?_; rintro e w' ⟨i, rfl, hi, n, rfl⟩) | go_in)
  go_ret
  exact ⟨ret_b e.out.symm, below_drewN (below_al1 _ _) _⟩

end Go.Proofs.YtncjkhdnpioinaaDoor

/- Whether all numbers of a list are greater than 0. -/
namespace Go.Proofs.YtncjkhdnpioinaaDoor
open Go.RowKit

theorem litPos_any (y q : Nat) (w : World) (hq : w.cell? ⟨q, 0, none⟩ = some (.func (.func 116) #[] #[])) :
    Calls Tryd.prog 158 #[.float .f32 y, .pointer (some ⟨q, 0, none⟩)] w (Bol (!(pos y)) w) := by
  go_enter Tryd.func158, Tryd.ntmps158
  go_wp2_with (go_at_call 116; refine (implPos_any _ _).mono ?_; rintro e w' ⟨rfl, n, rfl⟩)
  go_ret
  exact ⟨rfl, _, rfl⟩

theorem idxPos_any (v : Value) (zs : List Nat) (q : Nat) (w : World) (h : FRow w v zs) (hq : w.cell? ⟨q, 0, none⟩ = some (.func (.func 116) #[] #[])) :
    Calls Tryd.prog 187 #[v, .func (.func 158) #[] #[.pointer (some ⟨q, 0, none⟩)]] w (Idx (zs.any (fun z => !(pos z))) w) := by
  have VS := Lib.hid (fun k (hk : k < zs.length) (h : (!(pos (zs.getD k 0))) = true) => any_some (f := fun z => !(pos z)) hk h)
  have VN := Lib.hid (fun h => any_none (f := fun z => !(pos z)) (zs := zs) h)
  have HC := Lib.hid (fun (hn : 1 ≤ zs.length) => h.cells hn)
  have HL := Lib.hid h.len
  obtain ⟨a, cap, rfl⟩ := h.shape
  clear h
  generalize hb : zs.any (fun z => !(pos z)) = b at *
  clear hb
  have HG : Hid (∀ k, zs.getD k 0 = zs.getD k 0) := Lib.hid (fun k => rfl)
  generalize hn : zs.length = n at *
  clear hn
  go_enter Tryd.func187, Tryd.ntmps187
  go_wp2
  go_loopw [5, 8] (fun _ i wr => ∃ k q : Nat, k ≤ n ∧ i = .int .i64 k ∧ Hid (∀ j, j < k → (!(pos (zs.getD j 0))) = false) ∧ wr = w.drewN q) (fun _ i _ => n - (intOf i).toNat)
  case atStart => exact ⟨0, 0, Nat.zero_le _, rfl, Lib.hid (fun j hj => absurd hj (Nat.not_lt_zero _)), rfl⟩
  case round =>
    obtain ⟨k, q, hk, rfl, hall, rfl⟩ := hrel
    by_cases hlt : k < n
    · obtain ⟨b0, o0, cap', e, hc⟩ := HC.out (by omega)
      have ea : a = some ⟨b0, o0, none⟩ := by cases e; rfl
      have z0 := hc k hlt
      have VSk := Lib.hid (VS.out k hlt)
      clear e hc
      subst ea
      have hG := HL.out
      have hi : (0 : Int) ≤ (k : Int) := by omega
      have hi' : (k : Int) < (n : Int) := by omega
      generalize hy : zs.getD k 0 = y at *
      cases B : pos y
      · have V := Lib.hid (VSk.out (by rw [B]; rfl))
        go_wp2_with (go_at_call 158; refine (litPos_any y _ _ (by simpa using hq)).mono ?_; rw [B]; rintro e w' ⟨rfl, n, rfl⟩)
        go_ret
        exact ⟨_, rfl, by rw [V.out]; simp, _, rfl⟩
      · have V := Lib.hid (show (!(pos (zs.getD k 0))) = false by rw [hy, B]; rfl)
        clear hy
        go_wp2_with (go_at_call 158; refine (litPos_any y _ _ (by simpa using hq)).mono ?_; rw [B]; rintro e w' ⟨rfl, n, rfl⟩)
        go_roundw
        case rel => exact ⟨k + 1, _, by omega, by go_num, Lib.hid (fun j hj => by rcases Nat.lt_succ_iff_lt_or_eq.1 hj with h | h; exact hall.out j h; subst h; exact V.out), rfl⟩
        case measure => simp [intOf]; omega
    · have e := Lib.hid (show k = n by omega)
      go_wp2
      go_ret
      have := e.out
      subst this
      exact ⟨_, rfl, by rw [VN.out hall.out]; rfl, _, rfl⟩

theorem allPos_any (v : Value) (zs : List Nat) (w : World) (h : FRow w v zs) : Calls Tryd.prog 115 #[v, .func (.func 116) #[] #[]] w (BolB (zs.all (pos)) w) := by
  have H := Lib.hid (h.below (below_al1 w (.cells [Value.func (.func 116) #[] #[]].toArray 154)))
  have e := Lib.hid (show (!(zs.any (fun z => !(pos z)))) = zs.all (pos) from not_any_not _ _)
  clear h
  go_enter Tryd.func115, Tryd.ntmps115
  go_wp2_with (first | (go_at_call 187; refine (idxPos_any _ zs _ _ H.out (by simp)).mono ?_; rintro e w' ⟨i, rfl, hi, n, rfl⟩) | go_in)
  go_ret
  exact ⟨ret_b e.out.symm, below_drewN (below_al1 _ _) _⟩
end Go.Proofs.YtncjkhdnpioinaaDoor

/- Whether a rod is valid, as the program tells. -/
namespace Go.Proofs.YtncjkhdnpioinaaDoor
open Go.RowKit

theorem vRod_split {r : RL} (hl : lensOk r = true) : vRod r = (r.W.all pos && r.E.all pos && r.H.all pos && r.T.all (fin .f32)) := by
  have hl' := hl
  obtain ⟨⟨⟨⟨g1, g2⟩, g3⟩, g4⟩, g5⟩ : (((1 ≤ r.W.length ∧ r.W.length ≤ 48) ∧ r.E.length = r.W.length) ∧ r.H.length = r.W.length) ∧ r.T.length = r.W.length := by simpa [lensOk] using hl
  have key : ∀ (f : Nat → Bool) (zs : List Nat), zs.all f = true ↔ ∀ k, k < zs.length → f (zs.getD k 0) = true := fun f zs => by
    rw [List.all_eq_true]
    constructor
    · intro h k hk
      exact h _ (by simp [List.getD_eq_getElem?_getD, hk])
    · intro h x hx
      obtain ⟨i, hi, rfl⟩ := List.mem_iff_getElem.1 hx
      have := h i hi
      simpa [List.getD_eq_getElem?_getD, hi] using this
  unfold vRod
  rw [hl', Bool.true_and, Bool.eq_iff_iff, List.all_eq_true]
  simp only [Bool.and_eq_true, key, g3, g4, g5, List.mem_range, okAt]
  constructor
  · intro h
    exact ⟨⟨⟨fun k hk => (h k hk).1.1.1, fun k hk => (h k hk).1.1.2⟩, fun k hk => (h k hk).1.2⟩, fun k hk => (h k hk).2⟩
  · rintro ⟨⟨⟨h1, h2⟩, h3⟩, h4⟩ k hk
    exact ⟨⟨⟨h1 k hk, h2 k hk⟩, h3 k hk⟩, h4 k hk⟩

theorem implValid_len (a b c d : Value) (r : RL) (w : World) (h : RRow w a b c d r) (hl : lensOk r = false) :
    Calls Tryd.prog 64 #[.agg #[a, b, c, d]] w (BolB false w) := by
  obtain ⟨a1, a2, rfl⟩ := h.W.shape
  obtain ⟨b1, b2, rfl⟩ := h.E.shape
  obtain ⟨d1, d2, rfl⟩ := h.H.shape
  obtain ⟨e1, e2, rfl⟩ := h.T.shape
  clear h
  unfold lensOk at hl
  generalize r.W.length = m1 at *
  generalize r.E.length = m2 at *
  generalize r.H.length = m3 at *
  generalize r.T.length = n at *
  by_cases g1 : 1 ≤ n
  · have f1 : decide ((1 : Int) ≤ n) = true := by simp; omega
    by_cases g2 : n ≤ 48
    · have f2 : decide ((n : Int) ≤ 48) = true := by simp; omega
      by_cases g3 : m1 = n
      · subst g3
        by_cases g4 : m2 = m1
        · subst g4
          have g5 : ¬ m3 = m2 := by simpa [g1, g2] using hl
          have f5 : ((m3 : Int) == (m2 : Int)) = false := by simp; omega
          clear hl
          go_enter Tryd.func64, Tryd.ntmps64
          go_wp2
          go_ret
          exact ⟨rfl, below_al1 _ _⟩
        · have f4 : ((m2 : Int) == (m1 : Int)) = false := by simp; omega
          clear hl
          go_enter Tryd.func64, Tryd.ntmps64
          go_wp2
          go_ret
          exact ⟨rfl, below_al1 _ _⟩
      · have f3 : ((m1 : Int) == (n : Int)) = false := by simp; omega
        clear hl
        go_enter Tryd.func64, Tryd.ntmps64
        go_wp2
        go_ret
        exact ⟨rfl, below_al1 _ _⟩
    · have f2 : decide ((n : Int) ≤ 48) = false := by simp; omega
      clear hl
      go_enter Tryd.func64, Tryd.ntmps64
      go_wp2
      go_ret
      exact ⟨rfl, below_al1 _ _⟩
  · have f1 : decide ((1 : Int) ≤ n) = false := by simp; omega
    clear hl
    go_enter Tryd.func64, Tryd.ntmps64
    go_wp2
    go_ret
    exact ⟨rfl, below_al1 _ _⟩

set_option maxHeartbeats 1600000 in
theorem implValid_ok (a b c d : Value) (r : RL) (w : World) (h : RRow w a b c d r) (hl : lensOk r = true) :
    Calls Tryd.prog 64 #[.agg #[a, b, c, d]] w (BolB (vRod r) w) := by
  have R := Lib.hid (fun w1 (hb : Below w.heap.size w w1) => h.below hb)
  rw [vRod_split hl]
  obtain ⟨⟨⟨⟨g1, g2⟩, g3⟩, g4⟩, g5⟩ : (((1 ≤ r.W.length ∧ r.W.length ≤ 48) ∧ r.E.length = r.W.length) ∧ r.H.length = r.W.length) ∧ r.T.length = r.W.length := by simpa [lensOk] using hl
  obtain ⟨b0, k0, rfl⟩ := h.W.shape
  obtain ⟨b1, k1, rfl⟩ := h.E.shape
  obtain ⟨b2, k2, rfl⟩ := h.H.shape
  obtain ⟨b3, k3, rfl⟩ := h.T.shape
  rw [g3, g4, g5] at R ⊢
  clear h hl g3 g4 g5
  generalize r.W.length = n at *
  have f1 : decide ((1 : Int) ≤ n) = true := by simp; omega
  have f2 : decide ((n : Int) ≤ 48) = true := by simp; omega
  have A := Lib.hid (Cells.made w [.slice b0 n k0, .slice b1 n k1, .slice b2 n k2, .slice b3 n k3] 41)
  have Bw := Lib.hid (below_al1 w (.cells [Value.slice b0 n k0, .slice b1 n k1, .slice b2 n k2, .slice b3 n k3].toArray 41))
  clear g1 g2
  cases B0 : r.W.all pos
  · go_enter Tryd.func64, Tryd.ntmps64
    go_wp2_with (first | (go_at_call_of 115 b0; refine (allPos_any _ _ _ (R.out _ Bw.out).W).mono ?_; rw [B0]; rintro e w' ⟨rfl, hb⟩; have Bw := Lib.hid (below_step Bw.out hb); have A := Lib.hid (A.out.kept hb); have c0 := A.out.at 0 rfl; have c1 := A.out.at 1 rfl; have c2 := A.out.at 2 rfl; have c3 := A.out.at 3 rfl; clear hb))
    go_ret
    exact ⟨ret_b (by simp), Bw.out⟩
  · cases B1 : r.E.all pos
    · go_enter Tryd.func64, Tryd.ntmps64
      go_wp2_with (first | (go_at_call_of 115 b0; refine (allPos_any _ _ _ (R.out _ Bw.out).W).mono ?_; rw [B0]; rintro e w' ⟨rfl, hb⟩; have Bw := Lib.hid (below_step Bw.out hb); have A := Lib.hid (A.out.kept hb); have c0 := A.out.at 0 rfl; have c1 := A.out.at 1 rfl; have c2 := A.out.at 2 rfl; have c3 := A.out.at 3 rfl; clear hb) | (go_at_call_of 115 b1; refine (allPos_any _ _ _ (R.out _ Bw.out).E).mono ?_; rw [B1]; rintro e w' ⟨rfl, hb⟩; have Bw := Lib.hid (below_step Bw.out hb); have A := Lib.hid (A.out.kept hb); have c0 := A.out.at 0 rfl; have c1 := A.out.at 1 rfl; have c2 := A.out.at 2 rfl; have c3 := A.out.at 3 rfl; clear hb))
      go_ret
      exact ⟨ret_b (by simp), Bw.out⟩
    · cases B2 : r.H.all pos
      · go_enter Tryd.func64, Tryd.ntmps64
        go_wp2_with (first | (go_at_call_of 115 b0; refine (allPos_any _ _ _ (R.out _ Bw.out).W).mono ?_; rw [B0]; rintro e w' ⟨rfl, hb⟩; have Bw := Lib.hid (below_step Bw.out hb); have A := Lib.hid (A.out.kept hb); have c0 := A.out.at 0 rfl; have c1 := A.out.at 1 rfl; have c2 := A.out.at 2 rfl; have c3 := A.out.at 3 rfl; clear hb) | (go_at_call_of 115 b1; refine (allPos_any _ _ _ (R.out _ Bw.out).E).mono ?_; rw [B1]; rintro e w' ⟨rfl, hb⟩; have Bw := Lib.hid (below_step Bw.out hb); have A := Lib.hid (A.out.kept hb); have c0 := A.out.at 0 rfl; have c1 := A.out.at 1 rfl; have c2 := A.out.at 2 rfl; have c3 := A.out.at 3 rfl; clear hb) | (go_at_call_of 115 b2; refine (allPos_any _ _ _ (R.out _ Bw.out).H).mono ?_; rw [B2]; rintro e w' ⟨rfl, hb⟩; have Bw := Lib.hid (below_step Bw.out hb); have A := Lib.hid (A.out.kept hb); have c0 := A.out.at 0 rfl; have c1 := A.out.at 1 rfl; have c2 := A.out.at 2 rfl; have c3 := A.out.at 3 rfl; clear hb))
        go_ret
        exact ⟨ret_b (by simp), Bw.out⟩
      · cases B3 : r.T.all (fin .f32)
        · go_enter Tryd.func64, Tryd.ntmps64
          go_wp2_with (first | (go_at_call_of 115 b0; refine (allPos_any _ _ _ (R.out _ Bw.out).W).mono ?_; rw [B0]; rintro e w' ⟨rfl, hb⟩; have Bw := Lib.hid (below_step Bw.out hb); have A := Lib.hid (A.out.kept hb); have c0 := A.out.at 0 rfl; have c1 := A.out.at 1 rfl; have c2 := A.out.at 2 rfl; have c3 := A.out.at 3 rfl; clear hb) | (go_at_call_of 115 b1; refine (allPos_any _ _ _ (R.out _ Bw.out).E).mono ?_; rw [B1]; rintro e w' ⟨rfl, hb⟩; have Bw := Lib.hid (below_step Bw.out hb); have A := Lib.hid (A.out.kept hb); have c0 := A.out.at 0 rfl; have c1 := A.out.at 1 rfl; have c2 := A.out.at 2 rfl; have c3 := A.out.at 3 rfl; clear hb) | (go_at_call_of 115 b2; refine (allPos_any _ _ _ (R.out _ Bw.out).H).mono ?_; rw [B2]; rintro e w' ⟨rfl, hb⟩; have Bw := Lib.hid (below_step Bw.out hb); have A := Lib.hid (A.out.kept hb); have c0 := A.out.at 0 rfl; have c1 := A.out.at 1 rfl; have c2 := A.out.at 2 rfl; have c3 := A.out.at 3 rfl; clear hb) | (go_at_call_of 115 b3; refine (allFin_any _ _ _ (R.out _ Bw.out).T).mono ?_; rw [B3]; rintro e w' ⟨rfl, hb⟩; have Bw := Lib.hid (below_step Bw.out hb); have A := Lib.hid (A.out.kept hb); have c0 := A.out.at 0 rfl; have c1 := A.out.at 1 rfl; have c2 := A.out.at 2 rfl; have c3 := A.out.at 3 rfl; clear hb))
          go_ret
          exact ⟨ret_b (by simp), Bw.out⟩
        · go_enter Tryd.func64, Tryd.ntmps64
          go_wp2_with (first | (go_at_call_of 115 b0; refine (allPos_any _ _ _ (R.out _ Bw.out).W).mono ?_; rw [B0]; rintro e w' ⟨rfl, hb⟩; have Bw := Lib.hid (below_step Bw.out hb); have A := Lib.hid (A.out.kept hb); have c0 := A.out.at 0 rfl; have c1 := A.out.at 1 rfl; have c2 := A.out.at 2 rfl; have c3 := A.out.at 3 rfl; clear hb) | (go_at_call_of 115 b1; refine (allPos_any _ _ _ (R.out _ Bw.out).E).mono ?_; rw [B1]; rintro e w' ⟨rfl, hb⟩; have Bw := Lib.hid (below_step Bw.out hb); have A := Lib.hid (A.out.kept hb); have c0 := A.out.at 0 rfl; have c1 := A.out.at 1 rfl; have c2 := A.out.at 2 rfl; have c3 := A.out.at 3 rfl; clear hb) | (go_at_call_of 115 b2; refine (allPos_any _ _ _ (R.out _ Bw.out).H).mono ?_; rw [B2]; rintro e w' ⟨rfl, hb⟩; have Bw := Lib.hid (below_step Bw.out hb); have A := Lib.hid (A.out.kept hb); have c0 := A.out.at 0 rfl; have c1 := A.out.at 1 rfl; have c2 := A.out.at 2 rfl; have c3 := A.out.at 3 rfl; clear hb) | (go_at_call_of 115 b3; refine (allFin_any _ _ _ (R.out _ Bw.out).T).mono ?_; rw [B3]; rintro e w' ⟨rfl, hb⟩; have Bw := Lib.hid (below_step Bw.out hb); have A := Lib.hid (A.out.kept hb); have c0 := A.out.at 0 rfl; have c1 := A.out.at 1 rfl; have c2 := A.out.at 2 rfl; have c3 := A.out.at 3 rfl; clear hb))
          go_ret
          exact ⟨ret_b (by simp), Bw.out⟩

theorem implValid_any (a b c d : Value) (r : RL) (w : World) (h : RRow w a b c d r) : Calls Tryd.prog 64 #[.agg #[a, b, c, d]] w (BolB (vRod r) w) := by
  cases hl : lensOk r
  · have : vRod r = false := by simp [vRod, hl]
    rw [this]
    exact implValid_len a b c d r w h hl
  · exact implValid_ok a b c d r w h hl

end Go.Proofs.YtncjkhdnpioinaaDoor

/- Drawn regions that make memory in any order: what a slot holds may bear a fact on the world (a block's cells) that stays true while nothing that was there turns. One walk in the order of the text serves every order; a tail (stores) runs in the order of the text. -/
namespace Go.Proofs.YtncjkhdnpioinaaDoor
open Go.RowKit

section
variable {P : Program} {ops : Array Oper} {md : Region.Mode} {C : World → Prop} {T : Nat → Value → World → Prop}

/-- stays true while nothing that was there turns -/
def Pers (φ : World → Prop) : Prop := ∀ w w', φ w → Below w.heap.size w w' → φ w'

/-- which slots bear a fact on which value -/
abbrev SEnv := Nat → Value → Prop
def Facts (T : Nat → Value → World → Prop) (E : SEnv) (w : World) : Prop := ∀ d v, E d v → T d v w
def FNeed (T : Nat → Value → World → Prop) (ops : Array Oper) (o : Oper) (E : SEnv) (w : World) : Prop := ∀ d v, d ∈ o.looksAt ops → E d v → T d v w
def fNext (ops : Array Oper) (o : Oper) (E : SEnv) (a : Act) (v : Value) : SEnv := fun x u => E x u ∨ (Region.wanted o (yielded ops a.tmps) = true ∧ o.dst = some x ∧ u = v)

def FGoodR (P : Program) (T : Nat → Value → World → Prop) (o : Oper) (w : World) : Result Next → Prop
  | .ok (.value v) w' => Below w.heap.size w w' ∧ ∀ d, o.dst = some d → T d v w'
  | .ok .skip w' => Below w.heap.size w w' ∧ ∀ d, o.dst = some d → T d undef w'
  | .ok (.enter f args) w' => Below w.heap.size w w' ∧ Calls P f args w' (fun e w'' => ∃ v, e = .returned v ∧ Below w.heap.size w w'' ∧ ∀ d, o.dst = some d → T d v w'')
  | _ => False
def FValR (T : Nat → Value → World → Prop) (o : Oper) (v : Value) : Result Next → Prop
  | .ok (.value u) w' => v = u ∧ ∀ d, o.dst = some d → T d v w'
  | .ok .skip _ => v = undef
  | .ok (.enter _ _) _ => ∃ w', ∀ d, o.dst = some d → T d v w'
  | _ => False

def fGood (P : Program) (ops : Array Oper) (C : World → Prop) (T : Nat → Value → World → Prop) (o : Oper) (E : SEnv) (a : Act) : Prop :=
  Region.wanted o (yielded ops a.tmps) = true → ∀ w, C w → FNeed T ops o E w → FGoodR P T o w ((execOp a.eval o).run P w)
def fVal (P : Program) (ops : Array Oper) (C : World → Prop) (T : Nat → Value → World → Prop) (o : Oper) (E : SEnv) (a : Act) (v : Value) : Prop :=
  (Region.wanted o (yielded ops a.tmps) = true ∧ ∃ w, C w ∧ FNeed T ops o E w ∧ FValR T o v ((execOp a.eval o).run P w)) ∨ (Region.wanted o (yielded ops a.tmps) = false ∧ v = undef)

def wpFacts (P : Program) (ops : Array Oper) (C : World → Prop) (T : Nat → Value → World → Prop) (Q : SEnv → Act → Prop) : List Oper → SEnv → Act → Prop
  | [], E, a => Q E a
  | o :: rest, E, a => fGood P ops C T o E a ∧ ∀ v, fVal P ops C T o E a v → wpFacts P ops C T Q rest (fNext ops o E a v) (a.put o.dst v)

def fOp (P : Program) (ops : Array Oper) (C : World → Prop) (T : Nat → Value → World → Prop) (i : Nat) (K : SEnv → Act → Prop) (E : SEnv) (a : Act) : Prop :=
  match ops[i]? with
  | none => K E a
  | some o => fGood P ops C T o E a ∧ ∀ v, fVal P ops C T o E a v → K (fNext ops o E a v) (a.put o.dst v)

def Sat (C : World → Prop) (T : Nat → Value → World → Prop) (E : SEnv) : Prop := ∃ w, C w ∧ Facts T E w

/-- operations that only hand a value on: they may come as late as they like -/
def lateOp (o : Oper) : Bool := o.guard.isNone && match o.op with | .extract .. | .move _ | .assign _ => true | _ => false
def lateAt (ops : Array Oper) (late : List Nat) (i : Nat) : Bool := late.contains i && match ops[i]? with | some o => lateOp o | none => false

theorem late_all {o : Oper} {a : Act} (h : lateOp o = true) {v : Value} {w w' : World} (hr : (execOp a.eval o).run P w = .ok (.value v) w') : ∀ u, (execOp a.eval o).run P u = .ok (.value v) u := by
  simp only [lateOp, Bool.and_eq_true] at h
  obtain ⟨_, h⟩ := h
  unfold execOp at *
  cases e : o.op <;> simp only [e] at h hr ⊢ <;> first | (cases h; done) | skip
  case move x => intro u; cases hr; rfl
  case assign x => intro u; cases hr; rfl
  case extract t ix =>
    intro u
    revert hr
    simp only [Instr.extract]
    cases a.eval t with
    | tuple vs =>
      cases hv : vs[ix]? with
      | none => intro hr; simp [hv] at hr
      | some x => intro hr; simp only [hv] at hr ⊢; cases hr; rfl
    | _ => intro hr; cases hr

def wpAnyF (P : Program) (md : Region.Mode) (ops : Array Oper) (late : List Nat) (C : World → Prop) (T : Nat → Value → World → Prop) (n : Nat) (L : Array Bool → SEnv → Act → Prop) : Nat → Array Bool → SEnv → Act → Prop
  | 0, listed, E, a => Sat C T E → L listed E a
  | f + 1, listed, E, a => Sat C T E →
    (∃ m ∈ Region.ready md ops listed, m < n) ∧ ∀ i ∈ Region.ready md ops listed, (i < n → fOp P ops C T i (wpAnyF P md ops late C T n L f (listed.setIfInBounds i true)) E a) ∧
      (n ≤ i → ∀ m, m < n → listed.getD m true = false → lateAt ops late m = true)

theorem Facts.need {E : SEnv} {o : Oper} {w : World} (h : Facts T E w) : FNeed T ops o E w := fun d v _ hv => h d v hv
theorem Facts.next {E : SEnv} {o : Oper} {a : Act} {w w' : World} {v : Value} (hT : ∀ d v, Pers (T d v)) (h : Facts T E w) (hb : Below w.heap.size w w') (hv : Region.wanted o (yielded ops a.tmps) = true → ∀ d, o.dst = some d → T d v w') : Facts T (fNext ops o E a v) w' := by
  intro d u hu
  rcases hu with hu | ⟨hw, hd, rfl⟩
  · exact hT d u _ _ (h d u hu) hb
  · exact hv hw d hd

theorem wpOp_of_fOp {i : Nat} {E : SEnv} {a : Act} {K : SEnv → Act → Prop} {K' : Act → World → Prop} {Q' : Exit → Act → World → Prop} {w : World} (hpC : Pers C) (hpT : ∀ d v, Pers (T d v)) (hC : C w) (hF : Facts T E w)
    (h : ∀ E a w', C w' → Facts T E w' → K E a → K' a w') (hh : fOp P ops C T i K E a) : wpOp P ops Q' i K' a w := by
  unfold fOp at hh
  unfold wpOp
  split
  · rename_i ho; simp only [ho] at hh; exact h _ _ _ hC hF hh
  · rename_i o ho
    simp only [ho] at hh
    obtain ⟨hg, hv⟩ := hh
    split
    · rename_i hw
      refine .inl ?_
      have h1 := hg hw w hC hF.need
      have h2 : ∀ v, FValR T o v ((execOp a.eval o).run P w) → K (fNext ops o E a v) (a.put o.dst v) := fun v hv' => hv v (.inl ⟨hw, w, hC, hF.need, hv'⟩)
      unfold Oper.wp
      generalize (execOp a.eval o).run P w = r at *
      cases r with
      | ok n w' =>
        cases n <;> simp only [FGoodR] at h1 <;> simp only [Oper.upon]
        case value u => exact h _ _ _ (hpC _ _ hC h1.1) (hF.next hpT h1.1 fun _ d hd => h1.2 d hd) (h2 u ⟨rfl, h1.2⟩)
        case skip => exact h _ _ _ (hpC _ _ hC h1.1) (hF.next hpT h1.1 fun _ d hd => h1.2 d hd) (h2 undef rfl)
        case enter f args =>
          obtain ⟨hb, hc⟩ := h1
          exact hc.mono fun e w'' ⟨v, he, hb', ht⟩ => by subst he; exact h _ _ _ (hpC _ _ hC hb') (hF.next hpT hb' fun _ d hd => ht d hd) (h2 v ⟨w'', ht⟩)
      | halt x w' => simp only [FGoodR] at h1
    · rename_i hw
      have hw' : Region.wanted o (yielded ops a.tmps) = false := by simpa using hw
      exact h _ _ _ hC (hF.next hpT (Below.refl _ _) fun hb => absurd hb hw) (hv undef (.inr ⟨hw', rfl⟩))

def lateFreeB (md : Region.Mode) (ops : Array Oper) (late : List Nat) : Bool :=
  late.all fun m => match ops[m]? with
    | none => false
    | some om => (List.range ops.size).all fun j => j == m || match ops[j]? with
      | none => true
      | some oj => oj.after.any (fun e => Region.binds md e && e.on == m) || om.after.any (fun e => Region.binds md e && e.on == j) || om.apart ops oj

theorem late_free {late : List Nat} (h : lateFreeB md ops late = true) {m : Nat} {om : Oper} (hm : ops[m]? = some om) (hl : lateAt ops late m = true) {listed : Array Bool} (hr : m ∈ Region.ready md ops listed) :
    ∀ j oj, ops[j]? = some oj → j ≠ m → listed.getD j true = false → (∀ e ∈ oj.after, Region.binds md e = true → e.on ≠ m) → om.apart ops oj = true := by
  intro j oj hj hne hun hno
  simp only [lateAt, Bool.and_eq_true] at hl
  have h1 := List.all_eq_true.1 h m (by simpa using hl.1)
  simp only [hm, List.all_eq_true, List.mem_range] at h1
  have h2 := h1 j (Array.getElem?_eq_some_iff.1 hj).1
  simp only [hj, Bool.or_eq_true, beq_iff_eq, hne, false_or] at h2
  rcases h2 with (h2 | h2) | h2
  · obtain ⟨e, he, hb⟩ := Array.any_eq_true'.1 h2
    simp only [Bool.and_eq_true, beq_iff_eq] at hb
    exact absurd hb.2 (hno e he hb.1)
  · obtain ⟨e, he, hb⟩ := Array.any_eq_true'.1 h2
    simp only [Bool.and_eq_true, beq_iff_eq] at hb
    obtain ⟨_, o, ho, hall⟩ := mem_ready.1 hr
    have : o = om := Option.some.inj (ho.symm.trans hm)
    subst this
    have h3 := hall e he hb.1
    rw [hb.2, getD_both hun] at h3
    cases h3
  · exact h2

theorem wpAny_of_headF {late : List Nat} {n g : Nat} {L : Array Bool → SEnv → Act → Prop} {Q' : Exit → Act → World → Prop} (hpC : Pers C) (hpT : ∀ d v, Pers (T d v)) (hsel : ∀ (j : Nat) (o : Oper) cs b, ops[j]? = some o → o.op ≠ .select cs b) (hlf : lateFreeB md ops late = true)
    (hQ : ∀ (d : Option Nat) v c a w, Q' (.panic c) (a.put d v) w → Q' (.panic c) a w) (hL : ∀ listed E a w, C w → Facts T E w → L listed E a → wpAny P md ops Q' g listed a w) :
    ∀ (f : Nat) (listed : Array Bool) (E : SEnv) (a : Act) (w : World), C w → Facts T E w → wpAnyF P md ops late C T n L f listed E a → wpAny P md ops Q' (f + g) listed a w
  | 0, listed, E, a, w, hw, hF, h => by rw [Nat.zero_add]; exact hL _ _ _ _ hw hF (h ⟨w, hw, hF⟩)
  | f + 1, listed, E, a, w, hw, hF, h => by
    rw [show f + 1 + g = (f + g) + 1 by omega]
    obtain ⟨⟨m, hm, hmn⟩, h⟩ := h ⟨w, hw, hF⟩
    by_cases hx : ∀ i ∈ Region.ready md ops listed, i < n
    · exact ⟨fun h0 => (by rw [h0] at hm; cases hm), fun i hi => wpOp_of_fOp hpC hpT hw hF (fun E' a' w' hw' hF' h' => wpAny_of_headF hpC hpT hsel hlf hQ hL f _ E' a' w' hw' hF' h') ((h i hi).1 (hx i hi))⟩
    · obtain ⟨i, hx⟩ := Classical.not_forall.1 hx
      obtain ⟨hi, hin⟩ := Classical.not_imp.1 hx
      have hla := (h i hi).2 (by omega) m hmn (mem_ready.1 hm).1
      obtain ⟨_, om, hom, _⟩ := mem_ready.1 hm
      have hfo := (h m hm).1 hmn
      unfold fOp at hfo
      simp only [hom] at hfo
      obtain ⟨hg, hn⟩ := hfo
      have hlo : lateOp om = true := by simp only [lateAt, hom, Bool.and_eq_true] at hla; exact hla.2
      have hwant : Region.wanted om (yielded ops a.tmps) = true := by
        simp only [lateOp, Bool.and_eq_true, Option.isNone_iff_eq_none] at hlo
        simp [Region.wanted, hlo.1]
      have h1 := hg hwant w hw hF.need
      have hy : ∃ v, (execOp a.eval om).run P w = .ok (.value v) w := by
        generalize hr : (execOp a.eval om).run P w = r at h1
        cases r with
        | ok nx w' =>
          cases nx <;> simp only [FGoodR] at h1
          case value u => exact ⟨u, by rw [← hr]; exact late_all hlo hr w⟩
          case skip =>
            simp only [lateOp, Bool.and_eq_true] at hlo
            unfold execOp at hr
            cases e : om.op <;> simp only [e] at hlo hr <;> first | (cases hlo.2; done) | skip
            · cases hr
            · cases hr
            · rename_i t ix
              exfalso
              revert hr
              simp only [Instr.extract]
              cases a.eval t with
              | tuple vs => cases hv : vs[ix]? <;> (intro hr; simp [hv] at hr)
              | _ => intro hr; cases hr
          case enter f args =>
            simp only [lateOp, Bool.and_eq_true] at hlo
            unfold execOp at hr
            cases e : om.op <;> simp only [e] at hlo hr <;> first | (cases hlo.2; done) | skip
            · cases hr
            · cases hr
            · rename_i t ix
              exfalso
              revert hr
              simp only [Instr.extract]
              cases a.eval t with
              | tuple vs => cases hv : vs[ix]? <;> (intro hr; simp [hv] at hr)
              | _ => intro hr; cases hr
        | halt x w' => simp only [FGoodR] at h1
      obtain ⟨v, hv⟩ := hy
      have hall := late_all hlo hv
      rw [hv] at h1
      refine wpAny_first (v := v) hom hsel (hQ om.dst v) _ listed a w (late_free hlf hom hla hm) hm (.inl ⟨hwant, hall⟩) ?_
      exact wpAny_of_headF hpC hpT hsel hlf hQ hL f _ _ _ w hw (hF.next hpT (Below.refl _ _) fun _ => h1.2) (hn v (.inl ⟨hwant, w, hw, hF.need, by rw [hv]; exact ⟨rfl, h1.2⟩⟩))

/-- what another operation leaves does not touch what this one does -/
theorem FNeed_put {o p : Oper} {E : SEnv} {a : Act} {u : Value} {w : World} (h : ∀ d, p.dst = some d → d ∉ o.looksAt ops) : FNeed T ops o (fNext ops p E a u) w ↔ FNeed T ops o E w := by
  constructor
  · intro k d v hd hv; exact k d v hd (.inl hv)
  · intro k d v hd hv
    rcases hv with hv | ⟨_, he, _⟩
    · exact k d v hd hv
    · exact absurd hd (h d he)
theorem fGood_put {o p : Oper} {E : SEnv} {a : Act} {u : Value} (hs : ∀ cs b, o.op ≠ .select cs b) (h : ∀ d, p.dst = some d → d ∉ o.looksAt ops) : fGood P ops C T o (fNext ops p E a u) (a.put p.dst u) ↔ fGood P ops C T o E a := by
  unfold fGood
  rw [execOp_put o hs a p.dst u h, wanted_put o a p.dst u h]
  constructor
  · intro k hw w hC hN; exact k hw w hC ((FNeed_put h).2 hN)
  · intro k hw w hC hN; exact k hw w hC ((FNeed_put h).1 hN)
theorem fVal_put {o p : Oper} {E : SEnv} {a : Act} {u v : Value} (hs : ∀ cs b, o.op ≠ .select cs b) (h : ∀ d, p.dst = some d → d ∉ o.looksAt ops) : fVal P ops C T o (fNext ops p E a u) (a.put p.dst u) v ↔ fVal P ops C T o E a v := by
  unfold fVal
  rw [execOp_put o hs a p.dst u h, wanted_put o a p.dst u h]
  simp only [FNeed_put h]
theorem fNext_comm {o p : Oper} {E : SEnv} {a : Act} {u v : Value} (ho : ∀ d, p.dst = some d → d ∉ o.looksAt ops) (hp : ∀ d, o.dst = some d → d ∉ p.looksAt ops) :
    fNext ops o (fNext ops p E a u) (a.put p.dst u) v = fNext ops p (fNext ops o E a v) (a.put o.dst v) u := by
  unfold fNext
  rw [wanted_put o a p.dst u ho, wanted_put p a o.dst v hp]
  funext x y
  exact propext or_right_comm

/-- there is a value that it may leave, and a world for it -/
theorem some_fVal (hpC : Pers C) (hpT : ∀ d v, Pers (T d v)) {o : Oper} {E : SEnv} {a : Act} (hS : Sat C T E) (hg : fGood P ops C T o E a) : ∃ v, fVal P ops C T o E a v ∧ Sat C T (fNext ops o E a v) := by
  obtain ⟨w, hC, hF⟩ := hS
  by_cases h : Region.wanted o (yielded ops a.tmps) = true
  · have h3 := hg h w hC hF.need
    have : ∃ v, FValR T o v ((execOp a.eval o).run P w) ∧ ∃ w', Below w.heap.size w w' ∧ ∀ d, o.dst = some d → T d v w' := by
      generalize (execOp a.eval o).run P w = r at *
      cases r with
      | ok n w' =>
        cases n <;> simp only [FGoodR] at h3
        case value u => exact ⟨u, ⟨rfl, h3.2⟩, w', h3⟩
        case skip => exact ⟨undef, rfl, w', h3⟩
        case enter f args =>
          obtain ⟨e, w'', fr, ⟨v, _, hb, ht⟩, _⟩ := h3.2 []
          exact ⟨v, ⟨w'', ht⟩, w'', hb, ht⟩
      | halt x w' => simp only [FGoodR] at h3
    obtain ⟨v, hv, w', hb, ht⟩ := this
    exact ⟨v, .inl ⟨h, w, hC, hF.need, hv⟩, w', hpC _ _ hC hb, hF.next hpT hb fun _ => ht⟩
  · exact ⟨undef, .inr ⟨by simpa using h, rfl⟩, w, hC, hF.next hpT (Below.refl _ _) fun hb => absurd hb h⟩

theorem Sat.sub {E E' : SEnv} (h : Sat C T E') (hs : ∀ d v, E d v → E' d v) : Sat C T E := by
  obtain ⟨w, hC, hF⟩ := h
  exact ⟨w, hC, fun d v hv => hF d v (hs d v hv)⟩

theorem wpAnyF_first {late : List Nat} (hpC : Pers C) (hpT : ∀ d v, Pers (T d v)) {n i : Nat} {oi : Oper} {L : Array Bool → SEnv → Act → Prop} (hi : ops[i]? = some oi) (hsel : ∀ (j : Nat) (o : Oper) cs b, ops[j]? = some o → o.op ≠ .select cs b)
    (hw : ∀ listed, HeadInv md ops n listed → ∀ i, i < n → lateAt ops late i = false → listed.getD i true = false → ∀ t, n ≤ t → t ∉ Region.ready md ops listed) (hin : i < n)
    (hdone : ∀ listed E a, L listed E a → ∀ j ∈ Region.ready md ops listed, n ≤ j) :
    ∀ (f : Nat) (listed : Array Bool) (E : SEnv) (a : Act), HeadInv md ops n listed →
      (∀ j oj, ops[j]? = some oj → j ≠ i → listed.getD j true = false → (∀ e ∈ oj.after, Region.binds md e = true → e.on ≠ i) → oi.apart ops oj = true) →
      i ∈ Region.ready md ops listed → (Sat C T E → fGood P ops C T oi E a) →
      (∀ v, fVal P ops C T oi E a v → wpAnyF P md ops late C T n L f (listed.setIfInBounds i true) (fNext ops oi E a v) (a.put oi.dst v)) → wpAnyF P md ops late C T n L (f + 1) listed E a := by
  intro f
  induction f with
  | zero =>
    intro listed E a inv _ hr hy H hS
    have hy := hy hS
    have hun := (mem_ready.1 hr).1
    refine ⟨⟨i, hr, hin⟩, fun j hj => ⟨fun hjn => ?_, fun hjn m hm hmu => ?_⟩⟩
    case refine_2 =>
      cases hl : lateAt ops late m with
      | true => rfl
      | false => exact absurd hj (hw _ inv m hm hl hmu j hjn)
    by_cases hji : j = i
    · subst hji
      unfold fOp; simp only [hi]
      exact ⟨hy, H⟩
    · obtain ⟨v, hv, hS'⟩ := some_fVal hpC hpT hS hy
      have := hdone _ _ _ (H v hv hS') j (ready_mono hj hji)
      omega
  | succ f ih =>
    intro listed E a inv hfree hr hy H hS
    have hy := hy hS
    have hun := (mem_ready.1 hr).1
    refine ⟨⟨i, hr, hin⟩, fun j hj => ⟨fun hjn => ?_, fun hjn m hm hmu => ?_⟩⟩
    case refine_2 =>
      cases hl : lateAt ops late m with
      | true => rfl
      | false => exact absurd hj (hw _ inv m hm hl hmu j hjn)
    by_cases hji : j = i
    · subst hji
      unfold fOp; simp only [hi]
      exact ⟨hy, H⟩
    · obtain ⟨hjun, oj, hoj, hall⟩ := mem_ready.1 hj
      have hnot : ∀ e ∈ oj.after, Region.binds md e = true → e.on ≠ i := fun e he hb heq => by
        have h1 := hall e he hb
        rw [heq, getD_both hun] at h1
        cases h1
      have hap := hfree j oj hoj hji hjun hnot
      obtain ⟨q1, q2, q3⟩ := Oper.apart_spec hap
      have hfree' : ∀ k ok, ops[k]? = some ok → k ≠ i → (listed.setIfInBounds j true).getD k true = false →
          (∀ e ∈ ok.after, Region.binds md e = true → e.on ≠ i) → oi.apart ops ok = true := fun k ok hk hki hun hno => by
        refine hfree k ok hk hki ?_ hno
        by_cases hjk : j = k
        · subst hjk; exact hjun
        · rw [getD_set_ne true hjk] at hun; exact hun
      have si := fun cs b => hsel i oi cs b hi
      have sj := fun cs b => hsel j oj cs b hoj
      obtain ⟨v0, hv0, hS0⟩ := some_fVal hpC hpT hS hy
      have step : ∀ v, fVal P ops C T oi E a v → Sat C T (fNext ops oi E a v) → fGood P ops C T oj E a ∧ ∀ u, fVal P ops C T oj E a u → wpAnyF P md ops late C T n L f ((listed.setIfInBounds i true).setIfInBounds j true) (fNext ops oj (fNext ops oi E a v) (a.put oi.dst v) u) ((a.put oi.dst v).put oj.dst u) := fun v hv hs => by
        have h1 := ((H v hv hs).2 j (ready_mono hj hji)).1 hjn
        unfold fOp at h1
        simp only [hoj] at h1
        exact ⟨(fGood_put sj q1).1 h1.1, fun u hu => h1.2 u ((fVal_put sj q1).2 hu)⟩
      unfold fOp
      simp only [hoj]
      refine ⟨(step v0 hv0 hS0).1, fun u hu => ?_⟩
      refine ih (listed.setIfInBounds j true) (fNext ops oj E a u) (a.put oj.dst u) (inv.set hj hjn) hfree' (ready_mono hr (Ne.symm hji)) (fun _ => (fGood_put si q3).2 hy) fun v hv => ?_
      have hv' : fVal P ops C T oi E a v := (fVal_put si q3).1 hv
      rw [Array.setIfInBounds_comm _ _ hji, ← Act.put_comm a v u q2, fNext_comm q3 q1]
      have key := fun hs => (step v hv' hs).2 u hu
      have hsub : ∀ d x, fNext ops oi E a v d x → fNext ops oj (fNext ops oi E a v) (a.put oi.dst v) u d x := fun d x h => .inl h
      cases f with
      | zero => exact fun hs => key (hs.sub hsub) hs
      | succ f => exact fun hs => key (hs.sub hsub) hs

theorem wpAnyF_lex {late : List Nat} (hpC : Pers C) (hpT : ∀ d v, Pers (T d v)) {n g : Nat} {Lq : SEnv → Act → Prop} (hsel : Region.noSelect ops = true)
    (hw : ∀ listed, HeadInv md ops n listed → ∀ i, i < n → lateAt ops late i = false → listed.getD i true = false → ∀ t, n ≤ t → t ∉ Region.ready md ops listed) :
    ∀ (l : List Oper) (k : Nat) (listed : Array Bool) (E : SEnv) (a : Act), (∀ j, j < l.length → l[j]? = ops[k + j]?) → k + l.length = n → HeadInv md ops n listed →
    Region.lexHead md ops g l.length k listed = true → wpFacts P ops C T Lq l E a →
    wpAnyF P md ops late C T n (fun listed' E' a' => Region.seqB md ops g n listed' = true ∧ Lq E' a') l.length listed E a
  | [], k, listed, E, a, _, hk, _, hB, h => by
    have : k = n := by simpa using hk
    subst this
    exact fun _ => ⟨by simpa [Region.lexHead] using hB, h⟩
  | o :: l, k, listed, E, a, hl, hk, inv, hB, h => by
    have h0 : ops[k]? = some o := by simpa using (hl 0 (by simp)).symm
    simp only [List.length_cons, Region.lexHead, Bool.and_eq_true] at hB
    obtain ⟨⟨hr, hf⟩, hB'⟩ := hB
    have hkn : k < n := by simp only [List.length_cons] at hk; omega
    have hr' : k ∈ Region.ready md ops listed := by simpa using hr
    exact wpAnyF_first hpC hpT h0 (Region.noSelect_spec hsel) hw hkn (fun listed' E' a' hL => seqB_ready hL.1) l.length listed E a inv (Region.free_spec h0 hf) hr' (fun _ => h.1)
      (fun v hv => wpAnyF_lex hpC hpT hsel hw l (k + 1) _ _ _ (fun j hj => by have := hl (j + 1) (by simp; omega); simpa [Nat.add_assoc, Nat.add_comm 1 j] using this) (by simp only [List.length_cons] at hk; omega) (inv.set hr' hkn) hB' (h.2 v hv))

/-- each early operation of the head is waited for, up to operation n -/
def sinkE (md : Region.Mode) (ops : Array Oper) (late : List Nat) (n : Nat) : Bool :=
  (List.range n).all fun i => lateAt ops late i || (List.range (n + 1)).any fun j => decide (i < j) && (j == n || !lateAt ops late j) && Region.waitsFor md ops j i
theorem tail_waitsE {late : List Nat} {n : Nat} {listed : Array Bool} (hs : sinkE md ops late n = true) (hc : Region.chainB md ops n = true) (inv : HeadInv md ops n listed) :
    ∀ (d i : Nat), n - i = d → i < n → lateAt ops late i = false → listed.getD i true = false → ∀ t, n ≤ t → t ∉ Region.ready md ops listed := by
  intro d
  induction d using Nat.strongRecOn with
  | _ d ih =>
    intro i hd hi hl hun t ht hr
    obtain ⟨_, ot, hot, hall⟩ := mem_ready.1 hr
    have htlt : t < ops.size := (Array.getElem?_eq_some_iff.1 hot).1
    by_cases htn : t = n
    · subst htn
      have h1 := List.all_eq_true.1 hs i (List.mem_range.2 hi)
      rw [hl, Bool.false_or] at h1
      obtain ⟨j, hj, hj2⟩ := List.any_eq_true.1 h1
      simp only [Bool.and_eq_true, decide_eq_true_eq, Bool.or_eq_true, beq_iff_eq, Bool.not_eq_true'] at hj2
      obtain ⟨⟨hij, hjl⟩, hjw⟩ := hj2
      obtain ⟨oj, hoj, e, he, hb, hon⟩ := Region.waitsFor_spec hjw
      have hjle : j ≤ t := by have := List.mem_range.1 hj; omega
      by_cases hjt : j = t
      · subst hjt
        have : oj = ot := Option.some.inj (hoj.symm.trans hot)
        subst this
        have h2 := hall e he hb
        rw [hon, getD_both hun] at h2
        cases h2
      · cases hlj : listed.getD j false with
        | true =>
          have h2 := inv.closed j oj hoj hlj e he hb
          rw [hon, getD_both hun] at h2
          cases h2
        | false =>
          have hjs : j < listed.size := by rw [inv.size]; omega
          exact ih (t - j) (by omega) j rfl (by omega) (by rcases hjl with h | h; exact absurd h hjt; exact h) (getD_in hjs hlj) t (Nat.le_refl _) hr
    · have h1 := List.all_eq_true.1 hc t (List.mem_range.2 htlt)
      simp only [Bool.or_eq_true, decide_eq_true_eq] at h1
      rcases h1 with h1 | h1
      · omega
      · obtain ⟨o', ho', e, he, hb, hon⟩ := Region.waitsFor_spec h1
        have : o' = ot := Option.some.inj (ho'.symm.trans hot)
        subst this
        have h2 := hall e he hb
        rw [hon, getD_both (inv.tail (t - 1) (by omega) (by omega))] at h2
        cases h2

def factsTailB (md : Region.Mode) (ops : Array Oper) (late : List Nat) (n : Nat) : Bool :=
  Region.noSelect ops && decide (n < ops.size) && sinkE md ops late n && Region.chainB md ops n && lateFreeB md ops late && Region.lexHead md ops (ops.size - n) n 0 (Array.replicate ops.size false)

/-- the head in any order, the tail in the order of the text; operations of the head in 'late' only hand a value on -/
theorem wp_region_facts_tail {id : Nat} {Q : Exit → Act → World → Prop} {a : Act} {w : World} {l : List Oper} (n : Nat) (late : List Nat) (C : World → Prop) (T : Nat → Value → World → Prop) (hpC : Pers C) (hpT : ∀ d v, Pers (T d v)) (hC : C (w.drewN 1)) (hm : P.follows .mixedOrders = true) (hB : factsTailB .any l.toArray late n = true)
    (hQ : ∀ (d : Option Nat) v c a w, Q (.panic c) (a.put d v) w → Q (.panic c) a w)
    (h : wpFacts P l.toArray C T (fun E a' => ∀ w', C w' → Facts T E w' → wpList P l.toArray Q (l.drop n) a' w') (l.take n) (fun _ _ => False) a) : (Code.region id l.toArray true).wp P Q a w := by
  simp only [factsTailB, Bool.and_eq_true, decide_eq_true_eq] at hB
  obtain ⟨⟨⟨⟨⟨hsel, hn⟩, hs⟩, hc⟩, hlf⟩, hlex⟩ := hB
  have hn' : n < l.length := by simpa using hn
  have htl : (l.take n).length = n := by simp; omega
  have hdl : (l.drop n).length = l.toArray.size - n := by simp
  have inv0 : HeadInv .any l.toArray n (Array.replicate l.toArray.size false) :=
    ⟨by simp, fun j oj _ hl => (by rw [getD_replicate_false] at hl; cases hl), fun t _ ht => getD_in (by simpa using ht) (getD_replicate_false _ _)⟩
  have H := wpAnyF_lex (P := P) (C := C) (T := T) (md := .any) (g := l.toArray.size - n) (late := late) hpC hpT hsel (fun listed inv i hin hl hun => tail_waitsE hs hc inv _ i rfl hin hl hun) (l.take n) 0 _ _ a (fun j hj => by
    have hj' : j < n := by rw [htl] at hj; exact hj
    simp [hj']) (by simpa using htl) inv0 (by rw [htl]; exact hlex) h
  refine wp_region_any hm ?_
  have := wpAny_of_headF (Q' := Q) (g := l.toArray.size - n) hpC hpT (Region.noSelect_spec hsel) hlf hQ (fun listed E a' w' hw' hF' hL => by
    have := wpAny_of_seq (md := .any) (Q' := Q) (l.drop n) n listed a' w' (fun j => by simp [List.getElem?_drop]) (by rw [hdl]; exact hL.1) (hL.2 w' hw' hF')
    rwa [hdl] at this) _ _ _ _ (w.drewN 1) hC (fun _ _ h => h.elim) H
  rw [htl, show n + (l.toArray.size - n) = l.toArray.size by omega] at this
  exact this

def factsB (md : Region.Mode) (ops : Array Oper) (k : Nat) : Bool := Region.noSelect ops && Region.lexHead md ops 0 k 0 (Array.replicate k false)
/-- all in any order -/
theorem wp_region_facts {id : Nat} {Q : Exit → Act → World → Prop} {a : Act} {w : World} {l : List Oper} (C : World → Prop) (T : Nat → Value → World → Prop) (hpC : Pers C) (hpT : ∀ d v, Pers (T d v)) (hC : C (w.drewN 1)) (hm : P.follows .mixedOrders = true) (hB : factsB .any l.toArray l.length = true)
    (hQ : ∀ (d : Option Nat) v c a w, Q (.panic c) (a.put d v) w → Q (.panic c) a w)
    (h : wpFacts P l.toArray C T (fun E a' => ∀ w', C w' → Facts T E w' → Q .normal a' w') l (fun _ _ => False) a) : (Code.region id l.toArray true).wp P Q a w := by
  simp only [factsB, Bool.and_eq_true] at hB
  obtain ⟨hsel, hB⟩ := hB
  have inv0 : HeadInv .any l.toArray l.length (Array.replicate l.length false) :=
    ⟨by simp, fun j oj _ hl => (by rw [getD_replicate_false] at hl; cases hl), fun t h1 ht => absurd ht (by simpa using h1)⟩
  have H := wpAnyF_lex (P := P) (C := C) (T := T) (md := .any) (n := l.length) (g := 0) (late := []) hpC hpT hsel (fun listed inv i hin _ hun t ht hr => by
    obtain ⟨_, o, ho, _⟩ := mem_ready.1 hr
    have := (Array.getElem?_eq_some_iff.1 ho).1
    simp at this
    omega) l 0 _ _ a (fun j hj => by simp) (by simp) inv0 hB h
  refine wp_region_any hm ?_
  have := wpAny_of_headF (Q' := Q) (g := 0) hpC hpT (Region.noSelect_spec hsel) (by rfl) hQ (fun listed E a' w' hw' hF' hL => by
    unfold wpAny
    exact ⟨by simpa [Region.seqB] using hL.1, hL.2 w' hw' hF'⟩) _ _ _ _ (w.drewN 1) hC (fun _ _ h => h.elim) H
  rw [Nat.add_zero] at this
  simp only [List.size_toArray]
  exact this

/-! ### The steps -/
theorem wpFacts_mono {Q : SEnv → Act → Prop} (hQ : ∀ E E' a, (∀ d v, E d v → E' d v) → Q E a → Q E' a) : ∀ (l : List Oper) (E E' : SEnv) (a : Act), (∀ d v, E d v → E' d v) → wpFacts P ops C T Q l E a → wpFacts P ops C T Q l E' a
  | [], _, _, _, hs, h => hQ _ _ _ hs h
  | o :: l, E, E', a, hs, h => by
    refine ⟨fun hw w hC hN => h.1 hw w hC fun d v hd hv => hN d v hd (hs d v hv), fun v hv => ?_⟩
    refine wpFacts_mono hQ l (fNext ops o E a v) _ _ (fun d u hu => hu.imp (hs d u) id) (h.2 v ?_)
    rcases hv with ⟨hw, w, hC, hN, hv⟩ | hv
    · exact .inl ⟨hw, w, hC, fun d v hd hv => hN d v hd (hs d v hv), hv⟩
    · exact .inr hv

variable {Q : SEnv → Act → Prop} {a : Act} {o : Oper} {rest : List Oper} {E : SEnv}
def MonoQ (Q : SEnv → Act → Prop) : Prop := ∀ E E' a, (∀ d v, E d v → E' d v) → Q E a → Q E' a
theorem monoQ_end {K : Act → World → Prop} : MonoQ (fun E a' => ∀ w', C w' → Facts T E w' → K a' w') := fun _ _ _ hs h w' hC hF => h w' hC fun d v hv => hF d v (hs d v hv)

theorem wpFacts_nil (h : Q E a) : wpFacts P ops C T Q [] E a := h

/-- an operation whose value is known, and that bears no fact -/
theorem wpFacts_val (hgd : o.guard = none) (hQ : MonoQ Q) (hT : ∀ d, o.dst = some d → ∀ v w, T d v w) (v : Value) (hv : ∀ w, C w → ∃ w', Below w.heap.size w w' ∧ (execOp a.eval o).run P w = .ok (.value v) w')
    (h : ∀ K : Act → Prop, (∀ a, wpFacts P ops C T Q rest E a → K a) → K (a.put o.dst v)) : wpFacts P ops C T Q (o :: rest) E a := by
  have hw : Region.wanted o (yielded ops a.tmps) = true := by simp [Region.wanted, hgd]
  refine ⟨fun _ w hC _ => ?_, fun u hu => ?_⟩
  · obtain ⟨w', hb, e⟩ := hv w hC
    rw [e]; exact ⟨hb, fun d hd => hT d hd _ _⟩
  · rcases hu with ⟨_, w, hC, _, hu⟩ | ⟨hn, _⟩
    · obtain ⟨w', hb, e⟩ := hv w hC
      rw [e] at hu
      obtain ⟨rfl, _⟩ := hu
      exact wpFacts_mono hQ _ _ _ _ (fun d v h => .inl h) (h _ fun _ h => h)
    · rw [hw] at hn; cases hn

/-- an operation that hands back any of several values, or bears a fact -/
theorem wpFacts_some (hgd : o.guard = none) (d : Nat) (hd : o.dst = some d) (hv : ∀ w, C w → FNeed T ops o E w → ∃ v w', Below w.heap.size w w' ∧ T d v w' ∧ (execOp a.eval o).run P w = .ok (.value v) w')
    (h : ∀ v, (∃ w, T d v w) → wpFacts P ops C T Q rest (fun x u => E x u ∨ (x = d ∧ u = v)) (a.put o.dst v)) : wpFacts P ops C T Q (o :: rest) E a := by
  have hw : Region.wanted o (yielded ops a.tmps) = true := by simp [Region.wanted, hgd]
  refine ⟨fun _ w hC hN => ?_, fun u hu => ?_⟩
  · obtain ⟨v, w', hb, ht, e⟩ := hv w hC hN
    rw [e]; exact ⟨hb, fun d' hd' => by rw [hd] at hd'; cases hd'; exact ht⟩
  · have e : fNext ops o E a u = (fun x y => E x y ∨ (x = d ∧ y = u)) := by
      funext x y
      unfold fNext
      rw [hw, hd]
      refine propext (or_congr Iff.rfl ?_)
      constructor
      · rintro ⟨_, h1, h2⟩; cases h1; exact ⟨rfl, h2⟩
      · rintro ⟨rfl, h2⟩; exact ⟨rfl, rfl, h2⟩
    rw [e]
    rcases hu with ⟨_, w, hC, hN, hu⟩ | ⟨hn, _⟩
    · obtain ⟨v, w', hb, ht, e⟩ := hv w hC hN
      rw [e] at hu
      exact h u ⟨_, hu.2 d hd⟩
    · rw [hw] at hn; cases hn

/-- a call, by its contract -/
theorem wpFacts_call (hgd : o.guard = none) (d : Nat) (hd : o.dst = some d) (f : FuncId) (args : Array Value) (hr : ∀ w, (execOp a.eval o).run P w = .ok (.enter f args) w)
    (hc : ∀ w, C w → FNeed T ops o E w → Calls P f args w fun e w' => ∃ v, e = .returned v ∧ Below w.heap.size w w' ∧ T d v w')
    (h : ∀ v, (∃ w, T d v w) → wpFacts P ops C T Q rest (fun x u => E x u ∨ (x = d ∧ u = v)) (a.put o.dst v)) : wpFacts P ops C T Q (o :: rest) E a := by
  have hw : Region.wanted o (yielded ops a.tmps) = true := by simp [Region.wanted, hgd]
  refine ⟨fun _ w hC hN => ?_, fun u hu => ?_⟩
  · rw [hr w]
    exact ⟨Below.refl _ _, (hc w hC hN).mono fun e w' ⟨v, he, hb, ht⟩ => ⟨v, he, hb, fun d' hd' => by rw [hd] at hd'; cases hd'; exact ht⟩⟩
  · have e : fNext ops o E a u = (fun x y => E x y ∨ (x = d ∧ y = u)) := by
      funext x y
      unfold fNext
      rw [hw, hd]
      refine propext (or_congr Iff.rfl ?_)
      constructor
      · rintro ⟨_, h1, h2⟩; cases h1; exact ⟨rfl, h2⟩
      · rintro ⟨rfl, h2⟩; exact ⟨rfl, rfl, h2⟩
    rw [e]
    rcases hu with ⟨_, w, hC, hN, hu⟩ | ⟨hn, _⟩
    · rw [hr w] at hu
      obtain ⟨w', ht⟩ := hu
      exact h u ⟨w', ht d hd⟩
    · rw [hw] at hn; cases hn
end

/-- nothing that was there has turned: such a fact stays -/
theorem Pers.ext (w : World) : Pers (Ext w) := fun _ _ h hb => below_step h hb
theorem Pers.cells (p : Nat) (vs : List Value) : Pers (fun w => Cells w p vs) := fun _ _ h hb => h.kept hb
theorem Pers.true : Pers (fun _ => True) := fun _ _ _ _ => trivial
theorem Pers.ex {α : Sort _} {φ : α → World → Prop} (h : ∀ x, Pers (φ x)) : Pers (fun w => ∃ x, φ x w) := fun w w' ⟨x, hx⟩ hb => ⟨x, h x w w' hx hb⟩
theorem Pers.and {φ ψ : World → Prop} (h : Pers φ) (k : Pers ψ) : Pers (fun w => φ w ∧ ψ w) := fun w w' ⟨a, b⟩ hb => ⟨h w w' a hb, k w w' b hb⟩
theorem Pers.const (p : Prop) : Pers (fun _ => p) := fun _ _ h _ => h
end Go.Proofs.YtncjkhdnpioinaaDoor

/- The facts that slots bear, as a list; the steps for them. -/
namespace Go.Proofs.YtncjkhdnpioinaaDoor
open Go.RowKit
set_option linter.unusedVariables false

/-- a fact on a value and a world that stays true while nothing that was there turns -/
def Fct := {φ : Value → World → Prop // ∀ v, Pers (φ v)}
def TS : List (Nat × Fct) → Nat → Value → World → Prop
  | [], _, _, _ => True
  | (k, φ) :: l, d, v, w => (d = k → φ.1 v w) ∧ TS l d v w
theorem TS.pers : ∀ (l : List (Nat × Fct)) (d : Nat) (v : Value), Pers (TS l d v)
  | [], _, _ => Pers.true
  | (_, φ) :: l, d, v => fun w w' h hb => ⟨fun e => φ.2 v w w' (h.1 e) hb, TS.pers l d v w w' h.2 hb⟩
def TS.hasB : List (Nat × Fct) → Nat → Bool
  | [], _ => false
  | (k, _) :: l, d => d == k || TS.hasB l d
theorem TS.no : ∀ {l : List (Nat × Fct)} {d : Nat} (_ : TS.hasB l d = false) (v : Value) (w : World), TS l d v w
  | [], _, _, _, _ => trivial
  | (k, φ) :: l, d, h, v, w => by
    simp only [TS.hasB, Bool.or_eq_false_iff, beq_eq_false_iff_ne, ne_eq] at h
    exact ⟨fun e => absurd e h.1, TS.no h.2 v w⟩
def TS.findB : List (Nat × Fct) → Nat → Option Fct
  | [], _ => none
  | (k, φ) :: l, d => if d = k then (if TS.hasB l d then none else some φ) else TS.findB l d
theorem TS.mk : ∀ {l : List (Nat × Fct)} {d : Nat} {φ : Fct} (_ : TS.findB l d = some φ) {v : Value} {w : World} (_ : φ.1 v w), TS l d v w
  | [], _, _, h, _, _, _ => by cases h
  | (k, ψ) :: l, d, φ, h, v, w, hv => by
    unfold TS.findB at h
    split at h
    · rename_i e
      split at h
      · cases h
      · rename_i hb
        cases h
        exact ⟨fun _ => hv, TS.no (by simpa using hb) v w⟩
    · rename_i e
      exact ⟨fun e' => absurd e' e, TS.mk h hv⟩
theorem TS.get : ∀ {l : List (Nat × Fct)} {d : Nat} {φ : Fct} (_ : TS.findB l d = some φ) {v : Value} {w : World} (_ : TS l d v w), φ.1 v w
  | [], _, _, h, _, _, _ => by cases h
  | (k, ψ) :: l, d, φ, h, v, w, hv => by
    unfold TS.findB at h
    split at h
    · rename_i e
      split at h
      · cases h
      · cases h
        exact hv.1 e
    · exact TS.get h hv.2

/-- it is this value -/
def fIs (x : Value) : Fct := ⟨fun v _ => v = x, fun _ => Pers.const _⟩
/-- it points to a block, made since h, with these cells -/
def fBox (h : Nat) (vs : List Value) : Fct := ⟨fun v w => ∃ p, v = .pointer (some ⟨p, 0, none⟩) ∧ h ≤ p ∧ Cells w p vs, fun _ => Pers.ex fun _ => Pers.and (Pers.const _) (Pers.and (Pers.const _) (Pers.cells _ _))⟩
/-- it is a float, up to a not-a-number's bits -/
def fNum (k : FloatKind) (S : Nat) : Fct := ⟨fun v _ => ∃ r, cn k r = S ∧ v = .float k r, fun _ => Pers.const _⟩

theorem fact_of {l : List (Nat × Fct)} {E : SEnv} {w : World} {d : Nat} {φ : Fct} {v : Value} (hT : TS.findB l d = some φ) (hF : Facts (TS l) E w) (hE : E d v) : φ.1 v w := TS.get hT (hF d v hE)
theorem fact_box {l : List (Nat × Fct)} {E : SEnv} {w : World} {d h : Nat} {vs : List Value} {p : Nat} (hT : TS.findB l d = some (fBox h vs)) (hF : Facts (TS l) E w) (hE : E d (.pointer (some ⟨p, 0, none⟩))) : h ≤ p ∧ Cells w p vs := by
  obtain ⟨p', e, h1, h2⟩ := fact_of hT hF hE
  cases e
  exact ⟨h1, h2⟩

section
variable {P : Program} {ops : Array Oper} {C : World → Prop} {l : List (Nat × Fct)} {Q : SEnv → Act → Prop} {a : Act} {o : Oper} {rest : List Oper} {E : SEnv}

/-- an operation whose value is known -/
theorem wpF_val (hgd : o.guard = none) (hQ : MonoQ Q) (hT : ∀ d, o.dst = some d → TS.hasB l d = false) (v : Value) (hv : ∀ w, C w → (execOp a.eval o).run P w = .ok (.value v) w)
    (h : ∀ K : Act → Prop, (∀ a, wpFacts P ops C (TS l) Q rest E a → K a) → K (a.put o.dst v)) : wpFacts P ops C (TS l) Q (o :: rest) E a :=
  wpFacts_val hgd hQ (fun d hd v w => TS.no (hT d hd) v w) v (fun w hC => ⟨w, Below.refl _ _, hv w hC⟩) h

/-- an operation that makes a box -/
theorem wpF_alloc (hgd : o.guard = none) (d : Nat) (hd : o.dst = some d) (h0 : Nat) (vs : List Value) (t : TypeId) (hT : TS.findB l d = some (fBox h0 vs)) (hh : ∀ w, C w → h0 ≤ w.heap.size)
    (hv : ∀ w, (execOp a.eval o).run P w = .ok (.value (.pointer (some ⟨w.heap.size, 0, none⟩))) (w.alloc (.cells vs.toArray t)))
    (h : ∀ p : Nat, wpFacts P ops C (TS l) Q rest (fun x u => E x u ∨ (x = d ∧ u = .pointer (some ⟨p, 0, none⟩))) (a.put o.dst (.pointer (some ⟨p, 0, none⟩)))) : wpFacts P ops C (TS l) Q (o :: rest) E a :=
  wpFacts_some hgd d hd (fun w hC _ => ⟨_, _, below_al1 w _, TS.mk hT ⟨w.heap.size, rfl, hh w hC, Cells.made w vs t⟩, hv w⟩) (fun v ⟨_, hv⟩ => by
    obtain ⟨p, rfl, _⟩ := TS.get hT hv
    exact h p)

/-- a call whose value is known -/
theorem wpF_callV (hgd : o.guard = none) (d : Nat) (hd : o.dst = some d) (f : FuncId) (args : Array Value) (v : Value) (hT : TS.findB l d = some (fIs v)) (hr : ∀ w, (execOp a.eval o).run P w = .ok (.enter f args) w)
    (hc : ∀ w, C w → Calls P f args w fun e w' => e = .returned v ∧ Below w.heap.size w w')
    (h : wpFacts P ops C (TS l) Q rest (fun x u => E x u ∨ (x = d ∧ u = v)) (a.put o.dst v)) : wpFacts P ops C (TS l) Q (o :: rest) E a :=
  wpFacts_call hgd d hd f args hr (fun w hC _ => (hc w hC).mono fun e w' ⟨he, hb⟩ => ⟨v, he, hb, TS.mk hT rfl⟩) (fun u ⟨_, hu⟩ => by
    obtain rfl : u = v := TS.get hT hu
    exact h)

/-- a call that hands back a number -/
theorem wpF_callN (hgd : o.guard = none) (d : Nat) (hd : o.dst = some d) (f : FuncId) (args : Array Value) (k : FloatKind) (S : Nat) (hT : TS.findB l d = some (fNum k S)) (hr : ∀ w, (execOp a.eval o).run P w = .ok (.enter f args) w)
    (hc : ∀ w, C w → Calls P f args w fun e w' => ∃ r, cn k r = S ∧ e = .returned (.float k r) ∧ Below w.heap.size w w')
    (h : ∀ r, cn k r = S → wpFacts P ops C (TS l) Q rest (fun x u => E x u ∨ (x = d ∧ u = .float k r)) (a.put o.dst (.float k r))) : wpFacts P ops C (TS l) Q (o :: rest) E a :=
  wpFacts_call hgd d hd f args hr (fun w hC _ => (hc w hC).mono fun e w' ⟨r, hS, he, hb⟩ => ⟨_, he, hb, TS.mk hT ⟨r, hS, rfl⟩⟩) (fun u ⟨_, hu⟩ => by
    obtain ⟨r, hr, rfl⟩ := TS.get hT hu
    exact h r hr)

/-- a call that bears a fact -/
theorem wpF_callF (hgd : o.guard = none) (d : Nat) (hd : o.dst = some d) (f : FuncId) (args : Array Value) (φ : Fct) (hT : TS.findB l d = some φ) (hr : ∀ w, (execOp a.eval o).run P w = .ok (.enter f args) w)
    (hc : ∀ w, C w → FNeed (TS l) ops o E w → Calls P f args w fun e w' => ∃ v, e = .returned v ∧ Below w.heap.size w w' ∧ φ.1 v w')
    (h : ∀ v, (∃ w, φ.1 v w) → wpFacts P ops C (TS l) Q rest (fun x u => E x u ∨ (x = d ∧ u = v)) (a.put o.dst v)) : wpFacts P ops C (TS l) Q (o :: rest) E a :=
  wpFacts_call hgd d hd f args hr (fun w hC hN => (hc w hC hN).mono fun e w' ⟨v, he, hb, ht⟩ => ⟨v, he, hb, TS.mk hT ht⟩) (fun u ⟨w, hu⟩ => h u ⟨w, TS.get hT hu⟩)

/-- an operation on floats -/
theorem wpF_farith (hgd : o.guard = none) (d : Nat) (hd : o.dst = some d) (op : BinOp) (t : TypeId) (x y : Operand) (t' : TypeId) (ho : o.op = .binOp op t x y t') (hop : isArith op = true) (k : FloatKind) (m n : Nat)
    (hx : a.eval x = .float k m) (hy : a.eval y = .float k n) (S : Nat) (hT : TS.findB l d = some (fNum k S)) (hS : fop op k (cn k m) (cn k n) = S) (h : ∀ r, cn k r = S → wpFacts P ops C (TS l) Q rest (fun x u => E x u ∨ (x = d ∧ u = .float k r)) (a.put o.dst (.float k r))) : wpFacts P ops C (TS l) Q (o :: rest) E a := by
  refine wpFacts_some hgd d hd (fun w hC _ => ?_) (fun v ⟨_, hv⟩ => by
    obtain ⟨r, hr, rfl⟩ := TS.get hT hv
    exact h r hr)
  obtain ⟨r, j, hr, hw⟩ := run_farith (P := P) op hop t k m n w
  refine ⟨_, _, below_drewN (Below.refl _ _) j, TS.mk hT ⟨r, hr.1.trans hS, rfl⟩, ?_⟩
  have hg : (eqGuard op t x y (.float k m) (.float k n)) = pure () := by
    cases op <;> simp [isArith] at hop <;> rfl
  unfold execOp
  simp only [ho, hx, hy, hg, Sem.run_bind, Sem.run_pure, Result.andThen_ok, hw]
end
end Go.Proofs.YtncjkhdnpioinaaDoor

/- Rods read from a text: the program's reader. -/
namespace Go.Proofs.YtncjkhdnpioinaaDoor
open Go.RowKit
set_option linter.unusedVariables false

theorem needR_yes (a0 : Option Addr) (n0 k0 : Nat) (a1 : Option Addr) (n1 k1 : Nat) (a2 : Option Addr) (n2 k2 : Nat) (a3 : Option Addr) (n3 k3 : Nat) (w : World) : Calls Tryd.prog 63 #[.agg #[.slice a0 n0 k0, .slice a1 n1 k1, .slice a2 n2 k2, .slice a3 n3 k3], .bool true] w fun e w' => e = .returned (.agg #[.slice a0 n0 k0, .slice a1 n1 k1, .slice a2 n2 k2, .slice a3 n3 k3]) ∧ Below w.heap.size w w' := by
  go_enter Tryd.func63, Tryd.ntmps63
  go_wp2_with (go_at_call 114; refine (refuse_yes _).mono ?_; rintro e w' ⟨rfl, rfl⟩)
  refine bodyPost_ret (v := .agg #[.slice a0 n0 k0, .slice a1 n1 k1, .slice a2 n2 k2, .slice a3 n3 k3]) ?_ rfl ?_
  · rw [results_cell1 rfl]
    go_simp
  · exact ⟨rfl, (by repeat (first | exact Below.refl _ _ | refine Below.setCell ?_ (by first | exact Nat.le_refl _ | (simp; done) | (simp; omega) | omega) _ | refine below_drewN ?_ _ | refine Below.alloc ?_ (by first | exact Nat.le_refl _ | (simp; done) | (simp; omega) | omega) _))⟩
theorem needR_no (a0 : Option Addr) (n0 k0 : Nat) (a1 : Option Addr) (n1 k1 : Nat) (a2 : Option Addr) (n2 k2 : Nat) (a3 : Option Addr) (n3 k3 : Nat) (w : World) : Calls Tryd.prog 63 #[.agg #[.slice a0 n0 k0, .slice a1 n1 k1, .slice a2 n2 k2, .slice a3 n3 k3], .bool false] w fun e w' => e = rfP ∧ Below w.heap.size w w' := by
  go_enter Tryd.func63, Tryd.ntmps63
  go_wp2_with (go_at_call 114; refine (refuse_no _).mono ?_; rintro e w' ⟨rfl, rfl⟩)
  exact ⟨rfl, rfl, (by repeat (first | exact Below.refl _ _ | refine Below.setCell ?_ (by first | exact Nat.le_refl _ | (simp; done) | (simp; omega) | omega) _ | refine below_drewN ?_ _ | refine Below.alloc ?_ (by first | exact Nat.le_refl _ | (simp; done) | (simp; omega) | omega) _))⟩
set_option maxHeartbeats 3200000 in
set_option maxRecDepth 10000 in
theorem rodR_yes (p : Nat) (m : UInt8) (ps : List ByteArray) (c : Int) (w : World) (h : PrSt w p m ps c) (hM : Kp MaxP p w) (hc : -100 ≤ c) (hc2 : c ≤ 2000000) (k0 : nlOk (hdP ps) = true) (k1 : nlOk (hdP ps.tail) = true) (k2 : nlOk (hdP ps.tail.tail) = true) (k3 : nlOk (hdP ps.tail.tail.tail) = true) (kv : vRod ⟨(nlL (hdP ps)), (nlL (hdP ps.tail)), (nlL (hdP ps.tail.tail)), (nlL (hdP ps.tail.tail.tail))⟩ = true) :
    Calls Tryd.prog 61 #[.pointer (some ⟨p, 0, none⟩)] w fun e w' => ∃ v0 v1 v2 v3, e = .returned (.agg #[v0, v1, v2, v3]) ∧ RodO w.heap.size w' v0 v1 v2 v3 ⟨(nlL (hdP ps)), (nlL (hdP ps.tail)), (nlL (hdP ps.tail.tail)), (nlL (hdP ps.tail.tail.tail))⟩ ∧ PrSt w' p m ps.tail.tail.tail.tail (c - 1 - 1 - 1 - 1) ∧ Tur (Pt p) w w' := by
  have hp := h.lt
  have Q0 := Lib.hid (Cells.made w [.slice none 0 0, .slice none 0 0, .slice none 0 0, .slice none 0 0] 41)
  have B0 := below_al1 w (.cells [.slice none 0 0, .slice none 0 0, .slice none 0 0, .slice none 0 0].toArray 41)
  have T0 := Lib.hid (Tur.of_below (S := Pt p) B0)
  have P0 := Lib.hid (h.kept B0)
  have HM := Lib.hid hM
  have HPL := Lib.hid hp
  have hwa : (w.alloc (.cells [.slice none 0 0, .slice none 0 0, .slice none 0 0, .slice none 0 0].toArray 41)).heap.size = w.heap.size + 1 := by simp
  have HWA := Lib.hid hwa
  have L0 := Lib.hid (fun w1 (h1 : PrSt w1 p m ps (c)) hM => list_yes p m ps (c) w1 h1 hM (by omega) (by omega) k0)
  have L1 := Lib.hid (fun w1 (h1 : PrSt w1 p m ps.tail (c - 1)) hM => list_yes p m ps.tail (c - 1) w1 h1 hM (by omega) (by omega) k1)
  have L2 := Lib.hid (fun w1 (h1 : PrSt w1 p m ps.tail.tail (c - 1 - 1)) hM => list_yes p m ps.tail.tail (c - 1 - 1) w1 h1 hM (by omega) (by omega) k2)
  have L3 := Lib.hid (fun w1 (h1 : PrSt w1 p m ps.tail.tail.tail (c - 1 - 1 - 1)) hM => list_yes p m ps.tail.tail.tail (c - 1 - 1 - 1) w1 h1 hM (by omega) (by omega) k3)
  have ln0 := nlL_le (hdP ps)
  have ln1 := nlL_le (hdP ps.tail)
  have ln2 := nlL_le (hdP ps.tail.tail)
  have ln3 := nlL_le (hdP ps.tail.tail.tail)
  obtain ⟨Y0, hY0⟩ : ∃ Y, nlL (hdP ps) = Y := ⟨_, rfl⟩
  obtain ⟨Y1, hY1⟩ : ∃ Y, nlL (hdP ps.tail) = Y := ⟨_, rfl⟩
  obtain ⟨Y2, hY2⟩ : ∃ Y, nlL (hdP ps.tail.tail) = Y := ⟨_, rfl⟩
  obtain ⟨Y3, hY3⟩ : ∃ Y, nlL (hdP ps.tail.tail.tail) = Y := ⟨_, rfl⟩
  rw [hY0] at L0 ln0
  rw [hY1] at L1 ln1
  rw [hY2] at L2 ln2
  rw [hY3] at L3 ln3
  rw [hY0, hY1, hY2, hY3] at kv ⊢
  have SL : Hid (Y0.length + Y1.length + Y2.length + Y3.length ≤ 1024) := Lib.hid (by omega)
  have KV := Lib.hid kv
  clear h hM hp B0 hwa k0 k1 k2 k3 kv ln0 ln1 ln2 ln3 hY0 hY1 hY2 hY3
  go_enter Tryd.func61, Tryd.ntmps61
  go_wp2_with fail
  refine (L0.out _ P0.out (HM.out.step T0.out)).mono ?_
  rintro e w1 ⟨v0, rfl, hr, hp, ht⟩
  have P1 := Lib.hid hp
  have T1 := Lib.hid (T0.out.trans ht)
  have Q1 := Lib.hid (ht.cells Q0.out (by intro e; have e' : w.heap.size = p := e; have := HPL.out; omega))
  have Z0 : Hid (w.heap.size + 1 ≤ w.heap.size + 1) := Lib.hid (Nat.le_refl _)
  have hr0 := OIn.of hr
  rw [HWA.out] at hr0
  have O0_0 := Lib.hid hr0
  have Z1 : Hid (w.heap.size + 1 ≤ w1.heap.size) := Lib.hid (by have := ht.size; rw [HWA.out] at this; exact this)
  clear hr0
  obtain ⟨a0, c0, rfl⟩ := hr.shape
  clear hr hp ht
  go_wp2_with fail
  refine (L1.out _ P1.out (HM.out.step T1.out)).mono ?_
  rintro e w2 ⟨v1, rfl, hr, hp, ht⟩
  have P2 := Lib.hid hp
  have T2 := Lib.hid (T1.out.trans ht)
  have Q2 := Lib.hid (ht.cells Q1.out (by intro e; have e' : w.heap.size = p := e; have := HPL.out; omega))
  have O1_1 := Lib.hid (OIn.of hr)
  have O0_1 := Lib.hid (O0_0.out.tur ht (fun j h1 h2 h3 => by have e : j = p := h3; have := HPL.out; have := Z0.out; omega))
  have Z2 : Hid (w.heap.size + 1 ≤ w2.heap.size) := Lib.hid (Nat.le_trans Z1.out ht.size)
  have U2 : Hid (w1.heap.size ≤ w2.heap.size) := Lib.hid ht.size
  obtain ⟨a1, c1, rfl⟩ := hr.shape
  clear hr hp ht
  go_wp2_with fail
  refine (L2.out _ P2.out (HM.out.step T2.out)).mono ?_
  rintro e w3 ⟨v2, rfl, hr, hp, ht⟩
  have P3 := Lib.hid hp
  have T3 := Lib.hid (T2.out.trans ht)
  have Q3 := Lib.hid (ht.cells Q2.out (by intro e; have e' : w.heap.size = p := e; have := HPL.out; omega))
  have O2_2 := Lib.hid (OIn.of hr)
  have O0_2 := Lib.hid (O0_1.out.tur ht (fun j h1 h2 h3 => by have e : j = p := h3; have := HPL.out; have := Z0.out; omega))
  have O1_2 := Lib.hid (O1_1.out.tur ht (fun j h1 h2 h3 => by have e : j = p := h3; have := HPL.out; have := Z1.out; omega))
  have Z3 : Hid (w.heap.size + 1 ≤ w3.heap.size) := Lib.hid (Nat.le_trans Z2.out ht.size)
  have U3 : Hid (w2.heap.size ≤ w3.heap.size) := Lib.hid ht.size
  obtain ⟨a2, c2, rfl⟩ := hr.shape
  clear hr hp ht
  go_wp2_with fail
  refine (L3.out _ P3.out (HM.out.step T3.out)).mono ?_
  rintro e w4 ⟨v3, rfl, hr, hp, ht⟩
  have P4 := Lib.hid hp
  have T4 := Lib.hid (T3.out.trans ht)
  have Q4 := Lib.hid (ht.cells Q3.out (by intro e; have e' : w.heap.size = p := e; have := HPL.out; omega))
  have O3_3 := Lib.hid (OIn.of hr)
  have O0_3 := Lib.hid (O0_2.out.tur ht (fun j h1 h2 h3 => by have e : j = p := h3; have := HPL.out; have := Z0.out; omega))
  have O1_3 := Lib.hid (O1_2.out.tur ht (fun j h1 h2 h3 => by have e : j = p := h3; have := HPL.out; have := Z1.out; omega))
  have O2_3 := Lib.hid (O2_2.out.tur ht (fun j h1 h2 h3 => by have e : j = p := h3; have := HPL.out; have := Z2.out; omega))
  have Z4 : Hid (w.heap.size + 1 ≤ w4.heap.size) := Lib.hid (Nat.le_trans Z3.out ht.size)
  have U4 : Hid (w3.heap.size ≤ w4.heap.size) := Lib.hid ht.size
  obtain ⟨a3, c3, rfl⟩ := hr.shape
  clear hr hp ht
  have RO : Hid (RodO (w.heap.size + 1) w4 (.slice a0 Y0.length c0) (.slice a1 Y1.length c1) (.slice a2 Y2.length c2) (.slice a3 Y3.length c3) ⟨Y0, Y1, Y2, Y3⟩) := Lib.hid ⟨w.heap.size + 1, w1.heap.size, w2.heap.size, w3.heap.size, w4.heap.size, Nat.le_refl _, Z1.out, U2.out, U3.out, U4.out, Nat.le_refl _, O0_3.out, O1_3.out, O2_3.out, O3_3.out⟩
  clear O0_0 O0_1 O0_2 O0_3 O1_1 O1_2 O1_3 O2_2 O2_3 O3_3 L0 L1 L2 L3
  have EW : Hid (∀ w5, w5 = w4.alloc (.cells #[.slice a0 Y0.length c0, .slice a1 Y1.length c1, .slice a2 Y2.length c2, .slice a3 Y3.length c3] 41) → Cells w5 w4.heap.size [.slice a0 Y0.length c0, .slice a1 Y1.length c1, .slice a2 Y2.length c2, .slice a3 Y3.length c3] ∧ Cells w5 w.heap.size [.slice none 0 0, .slice none 0 0, .slice none 0 0, .slice none 0 0] ∧ PrSt w5 p m ps.tail.tail.tail.tail (c - 1 - 1 - 1 - 1) ∧ Tur (Pt p) w w5 ∧ RodO (w.heap.size + 1) w5 (.slice a0 Y0.length c0) (.slice a1 Y1.length c1) (.slice a2 Y2.length c2) (.slice a3 Y3.length c3) ⟨Y0, Y1, Y2, Y3⟩) := Lib.hid (fun w5 e => by
    have b := below_al1 w4 (.cells #[.slice a0 Y0.length c0, .slice a1 Y1.length c1, .slice a2 Y2.length c2, .slice a3 Y3.length c3] 41)
    rw [← e] at b
    refine ⟨?_, Q4.out.kept b, P4.out.kept b, T4.out.trans (Tur.of_below b), RO.out.kept b⟩
    rw [e]
    exact Cells.made w4 [.slice a0 Y0.length c0, .slice a1 Y1.length c1, .slice a2 Y2.length c2, .slice a3 Y3.length c3] 41)
  have hne : ¬ w4.heap.size = w.heap.size := by have := Z4.out; omega
  go_wp2
  obtain ⟨w5, hw5⟩ : ∃ w5, w5 = w4.alloc (.cells #[.slice a0 Y0.length c0, .slice a1 Y1.length c1, .slice a2 Y2.length c2, .slice a3 Y3.length c3] 41) := ⟨_, rfl⟩
  rw [← hw5]
  obtain ⟨hE, hQ, hP, hT, hR⟩ := EW.out w5 hw5
  have hrr := hR.rrow (by unfold RL.size; show Y0.length + Y1.length + Y2.length + Y3.length ≤ _; have := SL.out; omega)
  have IE := Lib.hid (fun w6 (hb : Below w5.heap.size w5 w6) => implValid_any _ _ _ _ _ w6 (hrr.below hb))
  rw [KV.out] at IE
  have Q := Lib.hid hQ
  have P5 := Lib.hid hP
  have T5 := Lib.hid hT
  have R5 := Lib.hid hR
  have FACT := Lib.hid (fun w6 (hw : Ext w5 w6) => And.intro (hw.cell (hE.at 0 rfl)) (And.intro (hw.cell (hE.at 1 rfl)) (And.intro (hw.cell (hE.at 2 rfl)) (hw.cell (hE.at 3 rfl)))))
  clear hE hQ hP hT hR hrr hw5 EW Q4 P4 T4 Q3 P3 T3 Q2 P2 T2 Q1 P1 T1 RO
  refine wp_region_facts_tail 3 [] (Ext w5) (TS [(15, fIs (.bool true))]) (Pers.ext _) (TS.pers _) (Ext.start _) (by kernel_rfl) (by kernel_rfl) (by intro d v c a w h; cases d <;> exact h) ?_
  simp only [List.take_succ_cons, List.take_zero, List.drop_succ_cons, List.drop_zero]
  repeat (refine wpF_val rfl monoQ_end (by rintro _ ⟨⟩; rfl) ?_ (fun w1 hw1 => ?_) (fun K hK => ?_); rotate_left; (focus (have hF := FACT.out w1 hw1; go_simp; first | done | rfl)); go_simp; refine hK _ ?_; clear hK K)
  refine wpF_callF rfl 15 rfl 64 #[.agg #[.slice a0 Y0.length c0, .slice a1 Y1.length c1, .slice a2 Y2.length c2, .slice a3 Y3.length c3]] (fIs (.bool true)) rfl (fun w6 => ?_) (fun w6 hC hN => ?_) (fun v1 hv1 => ?_)
  · go_simp
  · refine (IE.out w6 hC).mono ?_
    rintro _ w7 ⟨rfl, hb⟩
    exact ⟨_, rfl, hb, rfl⟩
  obtain ⟨_, rfl⟩ := hv1
  refine wpFacts_nil ?_
  intro w6 hb6 _
  have B6 := Lib.hid hb6
  clear hb6
  go_wp2_with (go_at_call 63; refine (needR_yes _ _ _ _ _ _ _ _ _ _ _ _ _).mono ?_; rintro e w7 ⟨rfl, hb⟩; have B7 := Lib.hid (below_step B6.out hb); have hQ := Q.out.kept B7.out; have q0 := hQ.at 0 rfl; have q1 := hQ.at 1 rfl; have q2 := hQ.at 2 rfl; have q3 := hQ.at 3 rfl; have qf := hQ.fz; clear hQ hb)
  have hqp : w.heap.size ≠ p := by have := HPL.out; omega
  have HF1 := Lib.hid (((((P5.out.kept B7.out).far hqp 0 (.slice a0 Y0.length c0)).far hqp 1 (.slice a1 Y1.length c1)).far hqp 2 (.slice a2 Y2.length c2)).far hqp 3 (.slice a3 Y3.length c3))
  have HF2 := Lib.hid (((((T5.out.trans (Tur.of_below B7.out)).setNew (Nat.le_refl _) 0 (.slice a0 Y0.length c0)).setNew (Nat.le_refl _) 1 (.slice a1 Y1.length c1)).setNew (Nat.le_refl _) 2 (.slice a2 Y2.length c2)).setNew (Nat.le_refl _) 3 (.slice a3 Y3.length c3))
  have HF3 := Lib.hid (((((R5.out.kept B7.out).far (p := w.heap.size) (Tur.of_onl ((Onl.refl w.heap.size _).setCell 0 (.slice a0 Y0.length c0)) rfl) (Nat.lt_succ_self _)).far (p := w.heap.size) (Tur.of_onl ((Onl.refl w.heap.size _).setCell 1 (.slice a1 Y1.length c1)) rfl) (Nat.lt_succ_self _)).far (p := w.heap.size) (Tur.of_onl ((Onl.refl w.heap.size _).setCell 2 (.slice a2 Y2.length c2)) rfl) (Nat.lt_succ_self _)).far (p := w.heap.size) (Tur.of_onl ((Onl.refl w.heap.size _).setCell 3 (.slice a3 Y3.length c3)) rfl) (Nat.lt_succ_self _))
  refine bodyPost_ret (v := .agg #[.slice a0 Y0.length c0, .slice a1 Y1.length c1, .slice a2 Y2.length c2, .slice a3 Y3.length c3]) ?_ rfl ?_
  · rw [results_cell1 rfl]
    go_simp
  · exact ⟨_, _, _, _, rfl, HF3.out.mono (Nat.le_succ _), HF1.out, HF2.out⟩
end Go.Proofs.YtncjkhdnpioinaaDoor
