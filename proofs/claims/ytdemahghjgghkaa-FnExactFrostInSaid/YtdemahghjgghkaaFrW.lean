/- Frosts: both sides, and the law. -/
import Derived.Test.YtdemahghjgghkaaRds
import Derived.Test.YtdemahghjgghkaaGiv3
import Derived.OwnWalk
import Derived.Laws.Small
namespace Go.Proofs.Ytdemahghjgghkaa
open Go.RowKit
set_option linter.unusedVariables false

def ltZ (x : Nat) : Bool := FloatKind.f32.format.order x 0 == some .lt
theorem ord_finN {x y : Nat} (h : FloatKind.f32.format.order x y = none) (hx : fin .f32 x = true) (hy : fin .f32 y = true) : False := by
  have a : nn .f32 x = false := by cases hn : nn .f32 x with | false => rfl | true => rw [fin_nan hn] at hx; cases hx
  have b : nn .f32 y = false := by cases hn : nn .f32 y with | false => rfl | true => rw [fin_nan hn] at hy; cases hy
  rw [ord_key, a, b] at h
  simp at h
theorem ge_lt {x y : Nat} (hx : fin .f32 x = true) (hy : fin .f32 y = true) : (FloatKind.f32.format.order x y == some .gt || FloatKind.f32.format.order x y == some .eq) = !(FloatKind.f32.format.order x y == some .lt) := by
  cases h : FloatKind.f32.format.order x y with
  | none => exact (ord_finN h hx hy).elim
  | some o => cases o <;> rfl
def mx (x y : Int) : Int := if y > x then y else x
theorem mx_bd {x y M : Int} (h : 0 ≤ x ∧ x ≤ M) (h' : 0 ≤ y ∧ y ≤ M) : 0 ≤ mx x y ∧ mx x y ≤ M := by unfold mx; split <;> omega
theorem max_any (x y : Int) (w : World) : Calls Try.prog 57 #[.int .i64 x, .int .i64 y] w fun e w' => e = .returned (.int .i64 (mx x y)) ∧ w = w' := by
  by_cases h : y < x
  · have E := Lib.hid (show mx x y = x by unfold mx; rw [if_neg (by omega)])
    have f0 : decide (y < x) = true := by simp; omega
    have f1 : decide (x < y) = false := by simp; omega
    go_enter Try.func57, Try.ntmps57
    go_wp2
    go_ret
    exact ⟨by rw [E.out]; rfl, rfl⟩
  · by_cases h' : x < y
    · have E := Lib.hid (show mx x y = y by unfold mx; split <;> omega)
      have f0 : decide (y < x) = false := by simp; omega
      have f1 : decide (x < y) = true := by simp; omega
      go_enter Try.func57, Try.ntmps57
      go_wp2
      go_ret
      exact ⟨by rw [E.out]; rfl, rfl⟩
    · obtain rfl : x = y := by omega
      have E := Lib.hid (show mx x x = x by unfold mx; split <;> omega)
      have f0 : decide (x < x) = false := by simp
      go_enter Try.func57, Try.ntmps57
      go_wp2
      go_ret
      exact ⟨by rw [E.out]; rfl, rfl⟩
/-- how long the frost is at k, how many there were, how long the longest one is -/
def frN (zs : List Nat) : Nat → Int
  | 0 => 0
  | k + 1 => bif ltZ (zs.getD k 0) then frN zs k + 1 else 0
def frC (zs : List Nat) : Nat → Int
  | 0 => 0
  | k + 1 => bif ltZ (zs.getD k 0) && (frN zs k == 0) then frC zs k + 1 else frC zs k
def frM (zs : List Nat) : Nat → Int
  | 0 => 0
  | k + 1 => bif ltZ (zs.getD k 0) then mx (frM zs k) (frN zs k + 1) else frM zs k
def Fr3 (zs : List Nat) (k : Nat) (c m l : Int) : Prop := c = frC zs k ∧ m = frM zs k ∧ l = frN zs k ∧ 0 ≤ c ∧ c ≤ k ∧ 0 ≤ m ∧ m ≤ k ∧ 0 ≤ l ∧ l ≤ k
theorem Fr3.zero (zs : List Nat) : Fr3 zs 0 0 0 0 := ⟨rfl, rfl, rfl, by omega, by omega, by omega, by omega, by omega, by omega⟩
theorem Fr3.no {zs : List Nat} {k : Nat} {c m l : Int} (h : Fr3 zs k c m l) (hz : ltZ (zs.getD k 0) = false) : Fr3 zs (k + 1) c m 0 := by
  obtain ⟨h1, h2, h3, h4, h5, h6, h7, h8, h9⟩ := h
  unfold Fr3 frN frC frM
  rw [hz, ← h1, ← h2]
  refine ⟨rfl, rfl, rfl, ?_, ?_, ?_, ?_, ?_, ?_⟩ <;> omega
theorem Fr3.more {zs : List Nat} {k : Nat} {c m l : Int} (h : Fr3 zs k c m l) (hz : ltZ (zs.getD k 0) = true) (hl : (l == 0) = false) : Fr3 zs (k + 1) c (mx m (l + 1)) (l + 1) := by
  obtain ⟨h1, h2, h3, h4, h5, h6, h7, h8, h9⟩ := h
  have := mx_bd (M := (k : Int) + 1) (x := m) (y := l + 1) (by omega) (by omega)
  unfold Fr3 frN frC frM
  rw [hz, ← h1, ← h2, ← h3, hl]
  refine ⟨rfl, rfl, rfl, ?_, ?_, ?_, ?_, ?_, ?_⟩ <;> omega
theorem Fr3.new {zs : List Nat} {k : Nat} {c m l : Int} (h : Fr3 zs k c m l) (hz : ltZ (zs.getD k 0) = true) (hl : (l == 0) = true) : Fr3 zs (k + 1) (c + 1) (mx m (l + 1)) (l + 1) := by
  obtain ⟨h1, h2, h3, h4, h5, h6, h7, h8, h9⟩ := h
  have := mx_bd (M := (k : Int) + 1) (x := m) (y := l + 1) (by omega) (by omega)
  unfold Fr3 frN frC frM
  rw [hz, ← h1, ← h2, ← h3, hl]
  refine ⟨rfl, rfl, rfl, ?_, ?_, ?_, ?_, ?_, ?_⟩ <;> omega
/-- two integers and a bool -/
def frV (zs : List Nat) : Value := bif rds zs then .tuple #[.int .i64 (frC zs zs.length), .int .i64 (frM zs zs.length), .bool true] else .tuple #[.int .i64 0, .int .i64 0, .bool false]
def FrB (c m : Int) (b : Bool) (w : World) (e : Ending) (w' : World) : Prop := e = .returned (.tuple #[.int .i64 c, .int .i64 m, .bool b]) ∧ Below w.heap.size w w'
def frB (zs : List Nat) : Bool := rds zs
abbrev frS (zs : List Nat) : Int := bif rds zs then frC zs zs.length else 0
abbrev frT (zs : List Nat) : Int := bif rds zs then frM zs zs.length else 0
theorem FrB.no {zs : List Nat} {w w' : World} (h : frB zs = false) (hb : Below w.heap.size w w') : FrB (frS zs) (frT zs) (frB zs) w (.returned (.tuple #[.int .i64 0, .int .i64 0, .bool false])) w' := by
  unfold frB at h; unfold FrB frS frT frB; rw [h]; exact ⟨rfl, hb⟩
theorem FrB.yes {zs : List Nat} {k : Nat} {c m l : Int} {w w' : World} (h : frB zs = true) (hk : k = zs.length) (hf : Fr3 zs k c m l) (hb : Below w.heap.size w w') : FrB (frS zs) (frT zs) (frB zs) w (.returned (.tuple #[.int .i64 c, .int .i64 m, .bool true])) w' := by
  unfold frB at h; unfold FrB frS frT frB; rw [h, ← hk, hf.1, hf.2.1]; exact ⟨rfl, hb⟩

set_option maxHeartbeats 1600000 in
theorem specFrost_any (v : Value) (zs : List Nat) (w : World) (h : FRow w v zs) : Calls Try.prog 26 #[v] w (FrB (frS zs) (frT zs) (frB zs) w) := by
  have Bw := Lib.hid (Below.refl w.heap.size w)
  have HRd := Lib.hid (specRds_any v zs w h)
  have HC := Lib.hid (fun w1 (hb : Below w.heap.size w w1) (hn : 1 ≤ zs.length) => (h.below hb).cells hn)
  have HL := Lib.hid h.len
  have FN := Lib.hid (fun h w1 hb => @FrB.no zs w w1 h hb)
  have FY := Lib.hid (fun k c m l w1 h hk hf hb => @FrB.yes zs k c m l w w1 h hk hf hb)
  have HZ := Lib.hid (fun (h : frB zs = true) => (rds_len h).2)
  have HA := Lib.hid (fun (h : frB zs = true) k hk => ge_lt (rds_at h k hk) (by decide +kernel : fin .f32 0 = true))
  have X0 := Lib.hid (Fr3.zero zs)
  have XN := Lib.hid (fun k c m l h h1 => @Fr3.no zs k c m l h h1)
  have XM := Lib.hid (fun k c m l h h1 h2 => @Fr3.more zs k c m l h h1 h2)
  have XW := Lib.hid (fun k c m l h h1 h2 => @Fr3.new zs k c m l h h1 h2)
  obtain ⟨a, cap, rfl⟩ := h.shape
  clear h
  generalize frS zs = S at *
  generalize frT zs = T at *
  generalize zs.length = n at *
  cases B0 : rds zs
  · skip
    have E := Lib.hid (show frB zs = false by unfold frB; simp [B0])
    have H0 := Lib.hid B0
    clear B0
    go_enter Try.func26, Try.ntmps26
    go_wp2_with fail
    refine (HRd.out).mono ?_
    rw [H0.out]
    rintro e wg0 ⟨rfl, hb⟩
    have Bw := Lib.hid (below_step Bw.out (by first | exact hb | exact below_undrew hb))
    clear hb
    go_wp2
    go_ret3
    exact FN.out E.out _ (by repeat (first | (with_reducible exact Bw.out) | (with_reducible refine below_drewN ?_ _) | (with_reducible exact Below.refl _ _)))
  · skip
    have E := Lib.hid (show frB zs = true by unfold frB; simp [B0])
    have H0 := Lib.hid B0
    clear B0
    go_enter Try.func26, Try.ntmps26
    go_wp2_with fail
    refine (HRd.out).mono ?_
    rw [H0.out]
    rintro e wg0 ⟨rfl, hb⟩
    have Bw := Lib.hid (below_step Bw.out (by first | exact hb | exact below_undrew hb))
    clear hb
    have HZ := Lib.hid (HZ.out E.out)
    have HA := Lib.hid (HA.out E.out)
    go_wp2
    go_loopw [5, 6, 7, 8, 14] (fun c m l _ i wr => ∃ (k : Nat) (c0 m0 l0 : Int), k ≤ n ∧ i = .int .i64 k ∧ c = .int .i64 c0 ∧ m = .int .i64 m0 ∧ l = .int .i64 l0 ∧ Hid (Fr3 zs k c0 m0 l0) ∧ Hid (Below w.heap.size w wr)) (fun _ _ _ _ i _ => n - (intOf i).toNat)
    case atStart => exact ⟨0, 0, 0, 0, Nat.zero_le _, rfl, rfl, rfl, rfl, X0, Bw⟩
    case round =>
      obtain ⟨k, c, m, l, hk, rfl, rfl, rfl, rfl, HF, Bw⟩ := hrel
      have gL := HL.out
      have gZ := HZ.out
      obtain ⟨-, -, -, c1, c2, m1, m2, l1, l2⟩ := HF.out
      by_cases hlt : k < n
      · obtain ⟨b0, o0, c0, e, hc⟩ := HC.out wr Bw.out (by omega)
        have ea : a = some ⟨b0, o0, none⟩ := by cases e; rfl
        have z0 := hc k hlt
        have oa := HA.out k hlt
        have XN := Lib.hid (XN.out k c m l HF.out)
        have XM := Lib.hid (XM.out k c m l HF.out)
        have XW := Lib.hid (XW.out k c m l HF.out)
        clear e hc HF HA
        subst ea
        have hi : (0 : Int) ≤ (k : Int) := by omega
        have hi' : (k : Int) < (n : Int) := by omega
        generalize hz : zs.getD k 0 = z at *
        clear hz
        have hl2 : l ≤ 128 := by omega
        have hc2 : c ≤ 128 := by omega
        cases C : ltZ z
        · have oc : (FloatKind.f32.format.order z 0 == some .lt) = false := C
          have oa := oa.trans (by rw [oc]; rfl : _ = true)
          have V := Lib.hid (XN.out C)
          clear C
          go_wp2
          go_roundw
          case rel => exact ⟨k + 1, c, m, 0, by omega, by go_num, rfl, rfl, rfl, V, Bw⟩
          case measure => simp [intOf]; omega
        · have oc : (FloatKind.f32.format.order z 0 == some .lt) = true := C
          have oa := oa.trans (by rw [oc]; rfl : _ = false)
          by_cases L0 : l = 0
          · have V := Lib.hid (XW.out C (by simp [L0]))
            have f1 : (l == 0) = true := by simp [L0]
            have f2 : (l + 1 == 1) = true := by simp [L0]
            generalize hmx : mx m (l + 1) = M at *
            have HMX := Lib.hid hmx
            clear hmx
            clear C L0 XN XM XW
            go_wp2_with (go_at_call 57; refine (max_any m (l + 1) _).mono ?_; rw [HMX.out]; rintro e w' ⟨rfl, rfl⟩)
            go_roundw
            case rel => exact ⟨k + 1, c + 1, M, l + 1, by omega, by go_num, rfl, rfl, rfl, V, Bw⟩
            case measure => simp [intOf]; omega
          · have V := Lib.hid (XM.out C (by simp [L0]))
            have f1 : (l == 0) = false := by simp [L0]
            have f2 : (l + 1 == 1) = false := by simp; omega
            generalize hmx : mx m (l + 1) = M at *
            have HMX := Lib.hid hmx
            clear hmx
            clear C L0 XN XM XW
            go_wp2_with (go_at_call 57; refine (max_any m (l + 1) _).mono ?_; rw [HMX.out]; rintro e w' ⟨rfl, rfl⟩)
            go_roundw
            case rel => exact ⟨k + 1, c, M, l + 1, by omega, by go_num, rfl, rfl, rfl, V, Bw⟩
            case measure => simp [intOf]; omega
      · have e := Lib.hid (show k = n by omega)
        go_wp2
        go_ret3
        exact FY.out k c m l _ E.out e.out HF.out (by repeat (first | (with_reducible exact Bw.out) | (with_reducible refine below_drewN ?_ _) | (with_reducible exact Below.refl _ _)))
set_option maxHeartbeats 1600000 in
theorem implFrost_any (v : Value) (zs : List Nat) (w : World) (h : FRow w v zs) : Calls Try.prog 27 #[v] w (FrB (frS zs) (frT zs) (frB zs) w) := by
  have Bw := Lib.hid (Below.refl w.heap.size w)
  have HRd := Lib.hid (implRds_any v zs w h)
  have HC := Lib.hid (fun w1 (hb : Below w.heap.size w w1) (hn : 1 ≤ zs.length) => (h.below hb).cells hn)
  have HL := Lib.hid h.len
  have FN := Lib.hid (fun h w1 hb => @FrB.no zs w w1 h hb)
  have FY := Lib.hid (fun k c m l w1 h hk hf hb => @FrB.yes zs k c m l w w1 h hk hf hb)
  have HZ := Lib.hid (fun (h : frB zs = true) => (rds_len h).2)
  have HA := Lib.hid (fun (h : frB zs = true) k hk => ge_lt (rds_at h k hk) (by decide +kernel : fin .f32 0 = true))
  have X0 := Lib.hid (Fr3.zero zs)
  have XN := Lib.hid (fun k c m l h h1 => @Fr3.no zs k c m l h h1)
  have XM := Lib.hid (fun k c m l h h1 h2 => @Fr3.more zs k c m l h h1 h2)
  have XW := Lib.hid (fun k c m l h h1 h2 => @Fr3.new zs k c m l h h1 h2)
  obtain ⟨a, cap, rfl⟩ := h.shape
  clear h
  generalize frS zs = S at *
  generalize frT zs = T at *
  generalize zs.length = n at *
  cases B0 : rds zs
  · skip
    have E := Lib.hid (show frB zs = false by unfold frB; simp [B0])
    have H0 := Lib.hid B0
    clear B0
    go_enter Try.func27, Try.ntmps27
    go_wp2_with fail
    refine (HRd.out).mono ?_
    rw [H0.out]
    rintro e wg0 ⟨rfl, hb⟩
    have Bw := Lib.hid (below_step Bw.out (by first | exact hb | exact below_undrew hb))
    clear hb
    go_wp2
    go_ret3
    exact FN.out E.out _ (by repeat (first | (with_reducible exact Bw.out) | (with_reducible refine below_drewN ?_ _) | (with_reducible exact Below.refl _ _)))
  · skip
    have E := Lib.hid (show frB zs = true by unfold frB; simp [B0])
    have H0 := Lib.hid B0
    clear B0
    go_enter Try.func27, Try.ntmps27
    go_wp2_with fail
    refine (HRd.out).mono ?_
    rw [H0.out]
    rintro e wg0 ⟨rfl, hb⟩
    have Bw := Lib.hid (below_step Bw.out (by first | exact hb | exact below_undrew hb))
    clear hb
    have HZ := Lib.hid (HZ.out E.out)
    have HA := Lib.hid (HA.out E.out)
    go_wp2
    go_loopw [5, 6, 7, 9, 15] (fun c m l _ i wr => ∃ (k : Nat) (c0 m0 l0 : Int), k ≤ n ∧ i = .int .i64 k ∧ c = .int .i64 c0 ∧ m = .int .i64 m0 ∧ l = .int .i64 l0 ∧ Hid (Fr3 zs k c0 m0 l0) ∧ Hid (Below w.heap.size w wr)) (fun _ _ _ _ i _ => n - (intOf i).toNat)
    case atStart => exact ⟨0, 0, 0, 0, Nat.zero_le _, rfl, rfl, rfl, rfl, X0, Bw⟩
    case round =>
      obtain ⟨k, c, m, l, hk, rfl, rfl, rfl, rfl, HF, Bw⟩ := hrel
      have gL := HL.out
      have gZ := HZ.out
      obtain ⟨-, -, -, c1, c2, m1, m2, l1, l2⟩ := HF.out
      by_cases hlt : k < n
      · obtain ⟨b0, o0, c0, e, hc⟩ := HC.out wr Bw.out (by omega)
        have ea : a = some ⟨b0, o0, none⟩ := by cases e; rfl
        have z0 := hc k hlt
        have oa := HA.out k hlt
        have XN := Lib.hid (XN.out k c m l HF.out)
        have XM := Lib.hid (XM.out k c m l HF.out)
        have XW := Lib.hid (XW.out k c m l HF.out)
        clear e hc HF HA
        subst ea
        have hi : (0 : Int) ≤ (k : Int) := by omega
        have hi' : (k : Int) < (n : Int) := by omega
        generalize hz : zs.getD k 0 = z at *
        clear hz
        have hl2 : l ≤ 128 := by omega
        have hc2 : c ≤ 128 := by omega
        cases C : ltZ z
        · have oc : (FloatKind.f32.format.order z 0 == some .lt) = false := C
          have oa := oa.trans (by rw [oc]; rfl : _ = true)
          have V := Lib.hid (XN.out C)
          clear C
          go_wp2
          go_roundw
          case rel => exact ⟨k + 1, c, m, 0, by omega, by go_num, rfl, rfl, rfl, V, Bw⟩
          case measure => simp [intOf]; omega
        · have oc : (FloatKind.f32.format.order z 0 == some .lt) = true := C
          have oa := oa.trans (by rw [oc]; rfl : _ = false)
          by_cases L0 : l = 0
          · have V := Lib.hid (XW.out C (by simp [L0]))
            have f1 : (l == 0) = true := by simp [L0]
            have f2 : (l + 1 == 1) = true := by simp [L0]
            have em : (if l + 1 > m then l + 1 else m) = mx m (l + 1) := rfl
            generalize mx m (l + 1) = M at *
            clear C L0 XN XM XW
            go_wp2
            go_roundw
            case rel => exact ⟨k + 1, c + 1, M, l + 1, by omega, by go_num, rfl, rfl, rfl, V, Bw⟩
            case measure => simp [intOf]; omega
          · have V := Lib.hid (XM.out C (by simp [L0]))
            have f1 : (l == 0) = false := by simp [L0]
            have f2 : (l + 1 == 1) = false := by simp; omega
            have em : (if l + 1 > m then l + 1 else m) = mx m (l + 1) := rfl
            generalize mx m (l + 1) = M at *
            clear C L0 XN XM XW
            go_wp2
            go_roundw
            case rel => exact ⟨k + 1, c, M, l + 1, by omega, by go_num, rfl, rfl, rfl, V, Bw⟩
            case measure => simp [intOf]; omega
      · have e := Lib.hid (show k = n by omega)
        go_wp2
        go_ret3
        exact FY.out k c m l _ E.out e.out HF.out (by repeat (first | (with_reducible exact Bw.out) | (with_reducible refine below_drewN ?_ _) | (with_reducible exact Below.refl _ _)))
set_option maxRecDepth 20000 in
set_option maxHeartbeats 1600000 in
theorem fnExactFrostIn_walk (v0 : Value) (zs : List Nat) (w : World) (h0 : FRow w v0 zs) : Calls Try.prog 7 #[v0] w (Tru w) := by
  by_cases hl0 : zs.length ≤ 1048576
  rotate_left
  · skip
    have g0 := h0.len
    obtain ⟨a0, c0, rfl⟩ := h0.shape
    clear h0
    go_enter Try.func7, Try.ntmps7
    go_wp2
    go_ret
    exact Tru.same
  have HL0 := Lib.hid hl0
  have A0 := Lib.hid h0
  have Bw := Lib.hid (Below.refl w.heap.size w)
  obtain ⟨a0, c0, rfl⟩ := h0.shape
  clear h0
  go_enter Try.func7, Try.ntmps7
  go_wp2_with fail
  refine (toF_any _ zs _ (by first | exact A0.out | exact A0.out.drewN) HL0.out).mono ?_
  rintro _ w1 ⟨x1, rfl, hx, hb⟩
  have A0 := Lib.hid (A0.out.below (by first | exact hb | exact below_undrew hb))
  have Bw := Lib.hid (below_step Bw.out (by first | exact hb | exact below_undrew hb))
  clear hb
  have X0 := Lib.hid hx
  clear hx
  go_wp2_with fail
  refine (specFrost_any _ zs _ X0.out).mono ?_
  rintro _ w2 ⟨rfl, hb⟩
  have A0 := Lib.hid (A0.out.below (by first | exact hb | exact below_undrew hb))
  have X0 := Lib.hid (X0.out.below (by first | exact hb | exact below_undrew hb))
  have Bw := Lib.hid (below_step Bw.out (by first | exact hb | exact below_undrew hb))
  clear hb
  clear X0
  go_wp2_with fail
  refine (toF_any _ zs _ (by first | exact A0.out | exact A0.out.drewN) HL0.out).mono ?_
  rintro _ w3 ⟨x3, rfl, hx, hb⟩
  have A0 := Lib.hid (A0.out.below (by first | exact hb | exact below_undrew hb))
  have Bw := Lib.hid (below_step Bw.out (by first | exact hb | exact below_undrew hb))
  clear hb
  have X0 := Lib.hid hx
  clear hx
  go_wp2_with fail
  refine (implFrost_any _ zs _ X0.out).mono ?_
  rintro _ w4 ⟨rfl, hb⟩
  have A0 := Lib.hid (A0.out.below (by first | exact hb | exact below_undrew hb))
  have X0 := Lib.hid (X0.out.below (by first | exact hb | exact below_undrew hb))
  have Bw := Lib.hid (below_step Bw.out (by first | exact hb | exact below_undrew hb))
  clear hb
  go_wp2_with fail
  refine (toF_any _ zs _ (by first | exact A0.out | exact A0.out.drewN) HL0.out).mono ?_
  rintro _ w5 ⟨x5, rfl, hx, hb⟩
  have A0 := Lib.hid (A0.out.below (by first | exact hb | exact below_undrew hb))
  have X0 := Lib.hid (X0.out.below (by first | exact hb | exact below_undrew hb))
  have Bw := Lib.hid (below_step Bw.out (by first | exact hb | exact below_undrew hb))
  clear hb
  have Y0 := Lib.hid hx
  clear hx
  go_wp2_with fail
  refine (eqF_any _ _ zs zs _ X0.out Y0.out (SameList.refl zs)).mono ?_
  rintro _ _ ⟨rfl, nq0, rfl⟩
  have Bw := Lib.hid (below_drewN Bw.out nq0)
  have A0 := Lib.hid (A0.out.below (below_drewN (Below.refl _ _) nq0))
  clear X0 Y0
  go_wp2
  go_ret
  exact Tru.below (by repeat (first | (with_reducible exact Bw.out) | (with_reducible refine below_drewN ?_ _) | (with_reducible exact Below.refl _ _)))


end Go.Proofs.Ytdemahghjgghkaa
