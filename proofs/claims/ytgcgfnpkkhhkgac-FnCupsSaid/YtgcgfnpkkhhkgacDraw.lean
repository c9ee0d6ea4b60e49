/- The source from which the laws in words draw: its bytes, its picks. -/
import Derived.Test.YtgcgfnpkkhhkgacRowI
import Derived.Test.YtgcgfnpkkhhkgacOnl
import Derived.BigQuiet
import Derived.Laws.BitsLemmas
import Derived.Laws.Bits64
namespace Go.Proofs.Ytgcgfnpkkhhkgac
open Go.RowKit
set_option linter.unusedVariables false

theorem wraps_u63 (n : Int) (h₀ : 0 ≤ n) (h₁ : n < 2 ^ 63) : IntKind.u64.wrap n = n := by rw [IntKind.wrap_u64]; omega
theorem byte_of (y : Int) : ∃ x, wrap64 (bits .and .u64 (IntKind.u64.wrap y / 1099511627776) 255) = x ∧ 0 ≤ x ∧ x < 256 := by
  have hw : 0 ≤ IntKind.u64.wrap y ∧ IntKind.u64.wrap y < 18446744073709551616 := by rw [IntKind.wrap_u64]; omega
  generalize IntKind.u64.wrap y = z at *
  have h := bits_mask .u64 63 (by decide) wraps_u63 8 (by decide) (z / 1099511627776) (by omega) (by omega)
  have e : ((2 : Int) ^ 8 - 1) = 255 := by decide
  have e2 : ((2 : Int) ^ 8) = 256 := by decide
  rw [e, e2] at h
  rw [h]
  exact ⟨z / 1099511627776 % 256, by unfold wrap64; omega, by omega, by omega⟩

/-- a new source -/
theorem from_any (a : Option Addr) (n c : Nat) (w : World) : Calls Try.prog 100 #[.slice a n c] w fun e w' =>
    e = .returned (.pointer (some ⟨w.heap.size, 0, none⟩)) ∧ w' = w.alloc (.cells #[.slice a n c, .int .i64 0, .int .u64 0] 155) := by
  go_enter Try.func100, Try.ntmps100
  go_wp2
  go_ret
  exact ⟨rfl, rfl⟩

/-- a source in the block g, which has handed on at bytes of zs -/
def Src (g : Nat) (a : Option Addr) (n c : Nat) (at' : Nat) (w : World) : Prop := ∃ s : Int, Cells w g [.slice a n c, .int .i64 at', .int .u64 s]

/-- an integer from 0 to below h; only the source has turned, and has handed on at most j more -/
def Pckd (g : Nat) (a : Option Addr) (n c at' j : Nat) (h : Int) (w : World) (e : Ending) (w' : World) : Prop :=
  ∃ x : Int, e = .returned (.int .i64 x) ∧ 0 ≤ x ∧ x < h ∧ (∃ k, k ≤ j ∧ Src g a n c (at' + k) w') ∧ Tur (· = g) w w'

theorem nxt_tur {g : Nat} {w : World} (x y : Value) (n : Nat) : Tur (· = g) w (((w.setCell ⟨g, 1, none⟩ x).setCell ⟨g, 2, none⟩ y).drewN n) :=
  Tur.of_onl (((Onl.refl g w).setCell 1 x).setCell 2 y).drewN rfl

set_option maxHeartbeats 800000 in
theorem next_any (g : Nat) (a : Option Addr) (c at' : Nat) (zs : List Int) (w : World) (S : Src g a zs.length c at' w) (R : IRow .u8 w (.slice a zs.length c) zs) (hb : Bytes zs) (ha : at' ≤ 1000000) :
    Calls Try.prog 160 #[.pointer (some ⟨g, 0, none⟩)] w (Pckd g a zs.length c at' 1 256 w) := by
  obtain ⟨s, S⟩ := S
  have A := Lib.hid S
  have hl := R.len
  by_cases h : at' < zs.length
  · obtain ⟨b, off, cap, hv, hc⟩ := R.cells (by omega)
    obtain ⟨rfl, rfl⟩ : a = some ⟨b, off, none⟩ ∧ c = cap := by injection hv with h1 h2 h3; exact ⟨h1, h3⟩
    have cb := hc at' h
    have hx := hb at' h
    generalize zs.getD at' 0 = x at *
    obtain ⟨hx0, hx1⟩ := hx
    clear hc hb hv R
    have c0 := S.at 0 rfl; have c1 := S.at 1 rfl; have c2 := S.at 2 rfl; have cf := S.fz
    clear S
    go_enter Try.func160, Try.ntmps160
    go_wp2
    go_region
    go_wp2
    go_region
    go_wp2
    go_region
    go_wp2
    go_ret
    exact ⟨x, rfl, hx0, by omega, ⟨1, Nat.le_refl _, _, ((A.out.set 1 (by simp) _).set 2 (by simp) _)⟩, nxt_tur (g := g) (w := w) _ _ 3⟩
  · have c0 := S.at 0 rfl; have c1 := S.at 1 rfl; have c2 := S.at 2 rfl; have cf := S.fz
    clear S
    go_enter Try.func160, Try.ntmps160
    go_wp2
    go_region
    go_wp2
    go_region
    go_wp2
    go_ret
    obtain ⟨x, hx, hx0, hx1⟩ := byte_of (IntKind.u64.wrap (IntKind.u64.wrap (s * 6364136223846793005)) + 1442695040888963407)
    rw [← hx] at hx0 hx1
    exact ⟨_, rfl, hx0, hx1, ⟨1, Nat.le_refl _, _, ((A.out.set 1 (by simp) _).set 2 (by simp) _)⟩, nxt_tur (g := g) (w := w) _ _ 2⟩

theorem IRow.tur {ik : IntKind} {S : Nat → Prop} {w w' : World} {v : Value} {zs : List Int} (h : IRow ik w v zs) (T : Tur S w w') (B : Nat) (hB : ∀ k, S k → B ≤ k) (hv : ∀ b off cap n, v = .slice (some ⟨b, off, none⟩) n cap → 0 < n → b < B) : IRow ik w' v zs := by
  rcases h with h | ⟨b, off, cap, e, hm, hc⟩
  · exact .inl h
  · refine .inr ⟨b, off, cap, e, hm, fun i hi => ?_⟩
    have h0 := hc i hi
    have hb := hv _ _ _ _ e (by omega)
    rw [World.cell?_of_block (w := w) (a := ⟨b, off + i, none⟩) (T.block b (cell_lt h0) (fun hs => by have := hB b hs; omega))]
    exact h0

/-- a slice of bytes that lies below the block B -/
structure Code8 (B : Nat) (w : World) (a : Option Addr) (c : Nat) (zs : List Int) : Prop where
  row : IRow .u8 w (.slice a zs.length c) zs
  bytes : Bytes zs
  low : 0 < zs.length → ∀ b off, a = some ⟨b, off, none⟩ → b < B
theorem Code8.tur {B : Nat} {w w' : World} {a : Option Addr} {c : Nat} {zs : List Int} {S : Nat → Prop} (h : Code8 B w a c zs) (T : Tur S w w') (hB : ∀ k, S k → B ≤ k) : Code8 B w' a c zs :=
  ⟨h.row.tur T B hB (fun b off cap n e hn => by injection e with e1 e2; exact h.low (by omega) b off e1), h.bytes, h.low⟩
theorem Code8.mono {B B' : Nat} {w : World} {a : Option Addr} {c : Nat} {zs : List Int} (h : Code8 B w a c zs) (hB : B ≤ B') : Code8 B' w a c zs :=
  ⟨h.row, h.bytes, fun hn b off e => Nat.lt_of_lt_of_le (h.low hn b off e) hB⟩
theorem Code8.below {B : Nat} {w w' : World} {a : Option Addr} {c : Nat} {zs : List Int} (h : Code8 B w a c zs) (hb : Below w.heap.size w w') : Code8 B w' a c zs :=
  ⟨h.row.below hb, h.bytes, h.low⟩

theorem Code8.of {w : World} {v : Value} {zs : List Int} (h : IRow .u8 w v zs ∧ ∀ i, i < zs.length → (Lit.int .u8 (zs.getD i 0)).wf = true) : ∃ a c, v = .slice a zs.length c ∧ Code8 w.heap.size w a c zs := by
  obtain ⟨h, hw⟩ := h
  obtain ⟨a, c, rfl⟩ := h.shape
  refine ⟨a, c, rfl, h, bytes_of hw, fun hn b off e => ?_⟩
  obtain ⟨b', off', cap, e', hc⟩ := h.cells hn
  injection e' with e1
  rw [e] at e1
  injection e1 with e1
  injection e1 with e1
  subst e1
  exact cell_lt (hc 0 hn)

set_option maxHeartbeats 800000 in
/-- a pick from 0 to h - 1 -/
theorem pick_any (g : Nat) (a : Option Addr) (c at' : Nat) (zs : List Int) (h : Int) (w : World) (S : Src g a zs.length c at' w) (R : Code8 g w a c zs) (ha : at' ≤ 999999) (h1 : 1 ≤ h) (h2 : h ≤ 65536) :
    Calls Try.prog 126 #[.pointer (some ⟨g, 0, none⟩), .int .i64 h] w (Pckd g a zs.length c at' 2 h w) := by
  by_cases d1 : h ≤ 1
  · obtain rfl : h = 1 := by omega
    go_enter Try.func126, Try.ntmps126
    go_wp2
    go_ret
    exact ⟨0, rfl, by omega, by omega, ⟨0, by omega, S⟩, Tur.of_below (Below.refl _ _)⟩
  · have NX := fun (w : World) (at' : Nat) (S : Src g a zs.length c at' w) (R : Code8 g w a c zs) (ha : at' ≤ 1000000) => next_any g a c at' zs w S R.row R.bytes ha
    by_cases d2 : 200 < h
    · go_enter Try.func126, Try.ntmps126
      go_wp2_with fail
      refine (NX _ _ S R (by omega)).mono ?_
      rintro e w1 ⟨x, rfl, hx0, hx1, ⟨k1, hk1, S1⟩, T1⟩
      have R1 := R.tur T1 (fun k hk => Nat.le_of_eq hk.symm)
      go_wp2_with fail
      refine (NX _ _ S1 R1 (by omega)).mono ?_
      rintro e w2 ⟨y, rfl, hy0, hy1, ⟨k2, hk2, S2⟩, T2⟩
      go_wp2
      go_ret
      exact ⟨_, rfl, Int.emod_nonneg _ (by omega), Int.emod_lt_of_pos _ (by omega), ⟨k1 + k2, by omega, by rw [← Nat.add_assoc]; exact S2⟩, T1.trans T2⟩
    · go_enter Try.func126, Try.ntmps126
      go_wp2_with fail
      refine (NX _ _ S R (by omega)).mono ?_
      rintro e w1 ⟨x, rfl, hx0, hx1, ⟨k1, hk1, S1⟩, T1⟩
      go_wp2
      go_ret
      exact ⟨_, rfl, Int.emod_nonneg _ (by omega), Int.emod_lt_of_pos _ (by omega), ⟨k1, by omega, S1⟩, T1⟩
end Go.Proofs.Ytgcgfnpkkhhkgac
