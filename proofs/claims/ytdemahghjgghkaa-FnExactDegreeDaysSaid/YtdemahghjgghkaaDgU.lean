/- Degrees under a base: the sum. -/
import Derived.Test.YtdemahghjgghkaaRds
import Derived.Test.YtdemahghjgghkaaGiv3
import Derived.Test.YtdemahghjgghkaaFu
namespace Go.Proofs.Ytdemahghjgghkaa
open Go.RowKit
set_option linter.unusedVariables false

def ltD (x y : Nat) : Bool := FloatKind.f32.format.order x y == some .lt
/-- the sum of the first k numbers' degrees -/
def dsm (zs : List Nat) (y : Nat) : Nat → Nat
  | 0 => 0
  | k + 1 => if ltD (zs.getD k 0) y then fop .add .f32 (dsm zs y k) (fop .sub .f32 y (zs.getD k 0)) else dsm zs y k
theorem dsm_yes {zs : List Nat} {y k r a b : Nat} (h : ltD (zs.getD k 0) y = true) (hr : cn .f32 r = dsm zs y k) (f0 : FR .sub .f32 y (zs.getD k 0) a) (f1 : FR .add .f32 r a b) : cn .f32 b = dsm zs y (k + 1) := by
  unfold dsm
  rw [h, if_pos rfl, f1.1, hr, f0.1]
  simp only [fopl', fopr']
theorem dsm_no {zs : List Nat} {y k r : Nat} (h : ltD (zs.getD k 0) y = false) (hr : cn .f32 r = dsm zs y k) : cn .f32 r = dsm zs y (k + 1) := by
  unfold dsm
  rw [h, if_neg (by decide)]; exact hr
theorem dsm_zero (zs : List Nat) (y : Nat) : cn .f32 0 = dsm zs y 0 := by show cn .f32 0 = 0; decide +kernel
/-- a number and nothing that was there has turned -/
def FloD (S : Nat) (w : World) (e : Ending) (w' : World) : Prop := ∃ r, cn .f32 r = S ∧ e = .returned (.float .f32 r) ∧ Below w.heap.size w w'

set_option maxHeartbeats 800000 in
theorem under_any (v : Value) (zs : List Nat) (y : Nat) (w : World) (h : FRow w v zs) : Calls Try.prog 56 #[v, .float .f32 y] w (FloD (dsm zs y zs.length) w) := by
  have HC := Lib.hid (fun w1 (hb : Below w.heap.size w w1) (hn : 1 ≤ zs.length) => (h.below hb).cells hn)
  have HL := Lib.hid h.len
  have DY := Lib.hid (fun k r a b h1 h2 h3 h4 => @dsm_yes zs y k r a b h1 h2 h3 h4)
  have DN := Lib.hid (fun k r h1 h2 => @dsm_no zs y k r h1 h2)
  have DZ := Lib.hid (dsm_zero zs y)
  have DE := Lib.hid (fun k (e : k = zs.length) r (hr : cn .f32 r = dsm zs y k) => show cn .f32 r = dsm zs y zs.length by rw [← e]; exact hr)
  have Bw := Lib.hid (Below.refl w.heap.size w)
  obtain ⟨a, cap, rfl⟩ := h.shape
  clear h
  generalize dsm zs y zs.length = S at *
  generalize zs.length = n at *
  go_enter Try.func56, Try.ntmps56
  go_wp2
  go_loopw [5, 7, 10] (fun s _ i wr => ∃ k r : Nat, k ≤ n ∧ i = .int .i64 k ∧ s = .float .f32 r ∧ Hid (cn .f32 r = dsm zs y k) ∧ Hid (Below w.heap.size w wr)) (fun _ _ i _ => n - (intOf i).toNat)
  case atStart => exact ⟨0, 0, Nat.zero_le _, rfl, rfl, DZ, by first | exact Bw | exact Lib.hid (by repeat (first | (with_reducible exact Bw.out) | (with_reducible refine below_drewN ?_ _) | (with_reducible exact Below.refl _ _)))⟩
  case round =>
    obtain ⟨k, r, hk, rfl, rfl, hr, Bw⟩ := hrel
    have gL := HL.out
    by_cases hlt : k < n
    · obtain ⟨b0, o0, c0, e, hc⟩ := HC.out wr Bw.out (by omega)
      have ea : a = some ⟨b0, o0, none⟩ := by cases e; rfl
      have z0 := hc k hlt
      have DYk := Lib.hid (DY.out k)
      have DNk := Lib.hid (DN.out k)
      clear e hc
      subst ea
      have hi : (0 : Int) ≤ (k : Int) := by omega
      have hi' : (k : Int) < (n : Int) := by omega
      generalize hz : zs.getD k 0 = z at *
      clear hz
      cases C : ltD z y
      · have oc : (FloatKind.f32.format.order z y == some .lt) = false := C
        have V := Lib.hid (DNk.out r C hr.out)
        clear C
        go_wp2
        go_roundw
        case rel => exact ⟨k + 1, r, by omega, by go_num, rfl, V, Bw⟩
        case measure => simp [intOf]; omega
      · have oc : (FloatKind.f32.format.order z y == some .lt) = true := C
        have V := Lib.hid (fun a b => DYk.out r a b C hr.out)
        clear C
        go_wp2_with (refine wpList_farith rfl _ _ _ _ _ rfl rfl _ _ _ rfl rfl ?_; intro r0 j0 g0; have f0 := Lib.hid g0; clear g0; refine Stop.go ?_)
        refine Stop.mk ?_
        go_wp2_with (refine wpList_farith rfl _ _ _ _ _ rfl rfl _ _ _ rfl rfl ?_; intro r1 j1 g1; have f1 := Lib.hid g1; clear g1; refine Stop.go ?_)
        refine Stop.mk ?_
        go_wp2
        go_roundw
        case rel => exact ⟨k + 1, r1, by omega, by go_num, rfl, Lib.hid (V.out _ _ f0.out f1.out), Lib.hid (by repeat (first | (with_reducible exact Bw.out) | (with_reducible refine below_drewN ?_ _) | (with_reducible exact Below.refl _ _)))⟩
        case measure => simp [intOf]; omega
    · have e := Lib.hid (show k = n by omega)
      have R := Lib.hid (DE.out k e.out r hr.out)
      go_wp2
      go_ret
      exact ⟨_, R.out, rfl, Bw.out⟩

end Go.Proofs.Ytdemahghjgghkaa
