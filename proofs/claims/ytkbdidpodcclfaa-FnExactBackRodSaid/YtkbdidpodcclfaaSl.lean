/- A slice of 32-bit numbers, as a list of their bits. -/
import Derived.Test.YtkbdidpodcclfaaSame
import Derived.Test.YtkbdidpodcclfaaFr
import Derived.Test.YtkbdidpodcclfaaLoose
import Derived.Test.YtkbdidpodcclfaaCell
import Derived.Deep.OwnRows
import Derived.Deep.Slices
import Derived.ProofKit
import Derived.Lib.Hide
namespace Go.Proofs.Ytkbdidpodcclfaa
open Go.RowKit

/-- a new row: the call hands back a slice that reads as zs, and nothing that was there has turned -/
def NewRow (zs : List Nat) (w : World) (e : Ending) (w' : World) : Prop := ∃ v, e = .returned v ∧ FRow w' v zs ∧ Below w.heap.size w w'

theorem Try.rowOf32 : (Try.prog.info? 22).map (fun i => (i.zero, i.size, i.bytes)) = some (some (.float .f32 0), 1, 4) := by kernel_rfl

def part (zs : List Nat) (k i : Nat) : Value := .float .f32 (if i < k then zs.getD i 0 else 0)

theorem row_of_part {wr : World} {b : Nat} {zs : List Nat} (h : wr.rowIs b 22 zs.length (part zs zs.length)) (hm : zs.length ≤ maxLen) : FRow wr (.slice (some ⟨b, 0, none⟩) zs.length zs.length) zs := by
  refine .inr ⟨b, 0, _, rfl, hm, fun i hi => ?_⟩
  have := h.cell hi
  rw [Nat.zero_add, this]
  simp [part, hi]

/-- .. in a block of its own, the first behind those that were there -/
def NewAt (zs : List Nat) (w : World) (e : Ending) (w' : World) : Prop :=
  e = .returned (.slice (some ⟨w.heap.size, 0, none⟩) zs.length zs.length) ∧ FRow w' (.slice (some ⟨w.heap.size, 0, none⟩) zs.length zs.length) zs ∧ Below w.heap.size w w' ∧ Cells w' w.heap.size (zs.map (.float .f32))

theorem cells_of_part {wr : World} {b : Nat} {zs : List Nat} (h : wr.rowIs b 22 zs.length (part zs zs.length)) (hb : b < wr.heap.size) : Cells wr b (zs.map (.float .f32)) := by
  refine ⟨fun i v hv => ?_, fun i => h.frozen i, hb⟩
  have hi : i < zs.length := by
    have := (List.getElem?_eq_some_iff.1 hv).1
    simpa using this
  rw [h.cell hi]
  simp [hi] at hv
  simp [part, hi, hv, List.getD_eq_getElem?_getD]

set_option maxHeartbeats 800000 in
theorem toF_new (v : Value) (zs : List Nat) (w : World) (h : FRow w v zs) (hl : zs.length ≤ 1048576) :
    Calls Try.prog 23 #[v] w (NewAt zs w) := by
  rcases h with ⟨⟨a0, c0, rfl⟩, rfl⟩ | ⟨b, off, cap, rfl, hm, hc⟩
  · have hmk : ∀ w, (Instr.makeSlice 23 (.int .i64 0) (.int .i64 0)).run Try.prog w = .ok (.slice (some ⟨w.heap.size, 0, none⟩) 0 0) (w.alloc (.cells (madeCells #[.float .f32 0] 0) 22)) := run_make_row' (P := Try.prog) 23 22 (.float .f32 0) 4 Try.underlying23 Try.rowOf32 rfl .i64 .i64 0 (by omega) (by omega)
    go_enter Try.func23, Try.ntmps23
    go_wp2
    go_loopw [4] (fun i wr => i = .int .i64 0 ∧ wr = w.alloc (.cells (madeCells #[.float .f32 0] 0) 22)) (fun i _ => 0)
    case atStart => exact ⟨rfl, rfl⟩
    case round =>
      obtain ⟨rfl, rfl⟩ := hrel
      go_wp2
      go_ret
      exact ⟨rfl, .inl ⟨⟨_, _, rfl⟩, rfl⟩, (Below.refl _ _).alloc (Nat.le_refl _) _, fun i v hv => by simp at hv, fun i => by simp, by simp⟩
  · generalize hn : zs.length = n at *
    have Hn := Lib.hid hn
    clear hn
    have hmk := run_make_row' (P := Try.prog) 23 22 (.float .f32 0) 4 Try.underlying23 Try.rowOf32 rfl .i64 .i64 n (by omega) (by omega)
    go_enter Try.func23, Try.ntmps23
    go_wp2
    go_loopw [4] (fun i wr => ∃ k : Nat, k ≤ n ∧ i = .int .i64 k ∧ Below w.heap.size w wr ∧ wr.rowIs w.heap.size 22 n (part zs k)) (fun i _ => n - (intOf i).toNat)
    case atStart => exact ⟨0, Nat.zero_le _, rfl, (Below.refl _ _).alloc (Nat.le_refl _) _, (World.rowIs_made w (.float .f32 0) n 22).congr (fun i _ => by simp [part])⟩
    case round =>
      obtain ⟨k, hk, rfl, hb, hr⟩ := hrel
      by_cases hlt : k < n
      · have h1 := hc k hlt
        have h2 : wr.cell? ⟨b, off + k, none⟩ = some (.float .f32 (zs.getD k 0)) := by rw [hb.cell (p := ⟨b, off + k, none⟩) (cell_lt h1)]; exact h1
        have h3 : wr.cell? ⟨w.heap.size, k, none⟩ = some (part zs k k) := hr.cell hlt
        have h4 : wr.frozen? ⟨w.heap.size, k, none⟩ = false := hr.frozen k
        have hr' := Lib.hid (hr.set k (.float .f32 (zs.getD k 0)))
        have hb' := Lib.hid (hb.setCell (p := ⟨w.heap.size, k, none⟩) (Nat.le_refl _) (.float .f32 (zs.getD k 0)))
        clear hmk hc h1 hb hr
        go_wp2
        go_roundw
        case rel =>
          refine ⟨k + 1, by omega, by go_num, by simpa using hb'.out, ?_⟩
          have := hr'.out
          refine World.rowIs.congr (by simpa using this) (fun i _ => ?_)
          simp only [part]
          by_cases e : i = k
          · subst e; simp
          · rw [if_neg e]
            by_cases h : i < k
            · rw [if_pos h, if_pos (by omega)]
            · rw [if_neg h, if_neg (by omega)]
        case measure => simp [intOf]; omega
      · have e : k = n := by omega
        have hr' := Lib.hid hr
        have hb' := Lib.hid (And.intro hb hr.lt)
        have He := Lib.hid e
        clear hmk hc hb hr e
        go_wp2
        go_ret
        have hr := hr'.out
        have hz := Hn.out
        have := He.out
        subst this
        subst hz
        exact ⟨rfl, row_of_part hr hm, hb'.out.1, cells_of_part hr hb'.out.2⟩

theorem toF_any (v : Value) (zs : List Nat) (w : World) (h : FRow w v zs) (hl : zs.length ≤ 1048576) :
    Calls Try.prog 23 #[v] w (NewRow zs w) := (toF_new v zs w h hl).mono fun _ _ ⟨he, hf, hb, _⟩ => ⟨_, he, hf, hb⟩

/-- two lists of numbers that are the same -/
def SameList (zs ys : List Nat) : Prop := zs.length = ys.length ∧ ∀ i, i < zs.length → cn .f32 (zs.getD i 0) = cn .f32 (ys.getD i 0)
theorem SameList.refl (zs : List Nat) : SameList zs zs := ⟨rfl, fun _ _ => rfl⟩

theorem FRow.empty {w : World} {v : Value} (h : FRow w v []) : ∃ a c, v = .slice a 0 c := by
  rcases h with ⟨h, _⟩ | ⟨b, off, cap, rfl, _⟩
  · exact h
  · exact ⟨_, _, rfl⟩

theorem eqF_empty (a a' : Option Addr) (c c' : Nat) (w : World) : Calls Try.prog 25 #[.slice a 0 c, .slice a' 0 c'] w (Yes w) := by
  go_enter Try.func25, Try.ntmps25
  go_wp2
  go_loop [5] (fun i => i = .int .i64 0) (fun _ => 0)
  case atStart => rfl
  case round =>
    obtain rfl := hrel
    go_wp2
    go_ret
    exact Yes.same

set_option maxHeartbeats 800000 in
theorem eqF_rows (zs ys : List Nat) (b off cap b' off' cap' : Nat) (w : World) (n : Nat) (hn : zs.length = n) (hm : n ≤ maxLen) (hs : ∀ i, i < n → cn .f32 (zs.getD i 0) = cn .f32 (ys.getD i 0))
    (hc : ∀ i, i < n → w.cell? ⟨b, off + i, none⟩ = some (.float .f32 (zs.getD i 0))) (hc' : ∀ i, i < n → w.cell? ⟨b', off' + i, none⟩ = some (.float .f32 (ys.getD i 0))) :
    Calls Try.prog 25 #[.slice (some ⟨b, off, none⟩) n cap, .slice (some ⟨b', off', none⟩) n cap'] w (Yes w) := by
  unfold maxLen at hm
  have Hs := Lib.hid hs
  have Hn := Lib.hid hn
  clear hs hn
  go_enter Try.func25, Try.ntmps25
  go_wp2
  go_loopw [5] (fun i wr => ∃ k q : Nat, k ≤ n ∧ i = .int .i64 k ∧ wr = w.drewN q) (fun i _ => n - (intOf i).toNat)
  case atStart => exact ⟨0, 0, Nat.zero_le _, rfl, rfl⟩
  case round =>
    obtain ⟨k, q, hk, rfl, rfl⟩ := hrel
    by_cases hlt : k < n
    · have h1 := hc k hlt
      have h2 := hc' k hlt
      have hz := Lib.hid (Hs.out k hlt)
      clear hc hc'
      have hi : (0 : Int) ≤ (k : Int) := by omega
      have hi' : (k : Int) < (n : Int) := by omega
      go_wp2
      refine wp_region_loose (fun _ _ v => v = .bool true) (by kernel_rfl) (by kernel_rfl) ?_
      (refine wpLoose_plain rfl (fun K hK => ?_); go_simp; refine hK _ ?_; clear hK K)
      (refine wpLoose_plain rfl (fun K hK => ?_); go_simp; refine hK _ ?_; clear hK K)
      (refine wpLoose_plain rfl (fun K hK => ?_); go_simp; refine hK _ ?_; clear hK K)
      (refine wpLoose_plain rfl (fun K hK => ?_); go_simp; refine hK _ ?_; clear hK K)
      (refine wpLoose_up rfl Try.underlying22 Try.underlying55 _ rfl _ rfl ?_; intro _ _)
      (refine wpLoose_plain rfl (fun K hK => ?_); go_simp; refine hK _ ?_; clear hK K)
      (refine wpLoose_plain rfl (fun K hK => ?_); go_simp; refine hK _ ?_; clear hK K)
      (refine wpLoose_plain rfl (fun K hK => ?_); go_simp; refine hK _ ?_; clear hK K)
      (refine wpLoose_plain rfl (fun K hK => ?_); go_simp; refine hK _ ?_; clear hK K)
      (refine wpLoose_up rfl Try.underlying22 Try.underlying55 _ rfl _ rfl ?_; intro _ _)
      rename_i r1 hu1 r2 hu2
      refine wpLoose_call rfl 37 #[.float .f64 r1, .float .f64 r2] (fun w1 => ?_) (fun w1 _ => ?_) ?_
      · go_simp
      · refine (same_end w1 hu1 hu2 (by simpa using hz.out)).mono ?_
        rintro e w2 ⟨rfl, m, rfl⟩
        exact ⟨_, rfl, rfl, m, rfl⟩
      rintro v rfl
      (refine wpLoose_plain rfl (fun K hK => ?_); go_simp; refine hK _ ?_; clear hK K)
      (refine wpLoose_nil ?_; rintro _ ⟨nq, rfl⟩)
      go_wp2
      go_roundw
      case rel => exact ⟨k + 1, _, by omega, by go_num, rfl⟩
      case measure => simp [intOf]; omega
    · clear hc hc'
      go_wp2
      go_ret
      exact Yes.drewN

/-- two slices of numbers that are the same, and slices of numbers alone -/
theorem eqF_any (v v' : Value) (zs ys : List Nat) (w : World) (h : FRow w v zs) (h' : FRow w v' ys) (hs : SameList zs ys) :
    Calls Try.prog 25 #[v, v'] w (Yes w) := by
  obtain ⟨hl, hs⟩ := hs
  by_cases h0 : zs.length = 0
  · obtain rfl : zs = [] := List.length_eq_zero_iff.1 h0
    obtain rfl : ys = [] := List.length_eq_zero_iff.1 hl.symm
    obtain ⟨a, c, rfl⟩ := h.empty
    obtain ⟨a', c', rfl⟩ := h'.empty
    exact eqF_empty a a' c c' w
  · rcases h with ⟨_, rfl⟩ | ⟨b, off, cap, rfl, hm, hc⟩
    · exact absurd rfl h0
    · rcases h' with ⟨_, rfl⟩ | ⟨b', off', cap', rfl, hm', hc'⟩
      · exact absurd hl h0
      · rw [← hl] at hc' ⊢
        exact eqF_rows zs ys b off cap b' off' cap' w zs.length rfl hm hs hc hc'
end Go.Proofs.Ytkbdidpodcclfaa
