/- Several texts in one, for a claim holds 60 files at most: Lst In End RodLs ValidS AllF AllP All Giv Lay Sums SumsS Tops Bd Half2 PassB PassE. -/
import Derived.Test.YtkbdidpodcclfaaYG
import Derived.IntWalk

/- A list of numbers, and whether there is one: what functions hand back that make a list. -/
namespace Go.Proofs.Ytkbdidpodcclfaa
open Go.RowKit
set_option linter.unusedVariables false

/-- a list that reads as S up to not-a-numbers' bits, and a bool; nothing that was there has turned -/
def LstB (S : List Nat) (b : Bool) (w : World) (e : Ending) (w' : World) : Prop := ∃ v zs, e = .returned (.tuple #[v, .bool b]) ∧ FRow w' v zs ∧ zs.map (cn .f32) = S ∧ Below w.heap.size w w'
/-- .. the list lies in memory of its own -/
def LstO (S : List Nat) (b : Bool) (w : World) (e : Ending) (w' : World) : Prop := ∃ v zs, e = .returned (.tuple #[v, .bool b]) ∧ ORow w.heap.size w' v zs ∧ zs.map (cn .f32) = S ∧ Below w.heap.size w w'

theorem same_of_map {zs ys S : List Nat} (h : zs.map (cn .f32) = S) (h' : ys.map (cn .f32) = S) : SameList zs ys := by
  subst h'
  have hl : zs.length = ys.length := by simpa using congrArg List.length h
  refine ⟨hl, fun i hi => ?_⟩
  have h1 : (zs.map (cn .f32))[i]? = (ys.map (cn .f32))[i]? := by rw [h]
  have hi' : i < ys.length := by omega
  simpa [hi, hi', List.getD_eq_getElem?_getD] using h1
theorem len_of_map {zs S : List Nat} (h : zs.map (cn .f32) = S) : zs.length = S.length := by simpa using congrArg List.length h
theorem LstB.no {w w' : World} (hb : Below w.heap.size w w') : LstB [] false w (.returned (.tuple #[.slice none 0 0, .bool false])) w' := ⟨_, [], rfl, .inl ⟨⟨_, _, rfl⟩, rfl⟩, rfl, hb⟩
theorem LstO.no {w w' : World} (hb : Below w.heap.size w w') : LstO [] false w (.returned (.tuple #[.slice none 0 0, .bool false])) w' := ⟨_, [], rfl, .nil, rfl, hb⟩
/-- a list if it is such -/
def lstS (b : Bool) (S : List Nat) : List Nat := bif b && S.all (fin .f32) then S else []
def lstG (b : Bool) (S : List Nat) : Bool := b && S.all (fin .f32)
theorem lstS_le {b : Bool} {S : List Nat} {n : Nat} (h : S.length ≤ n) : (lstS b S).length ≤ n := by
  unfold lstS; cases b && S.all (fin .f32) <;> simp [h]
theorem all_fin_cn (zs : List Nat) : (zs.map (cn .f32)).all (fin .f32) = zs.all (fin .f32) := by
  induction zs with
  | nil => rfl
  | cons z zs ih => simp only [List.map_cons, List.all_cons, fin_cn, ih]
end Go.Proofs.Ytkbdidpodcclfaa

/- Whether an integer lies between two others. -/
namespace Go.Proofs.Ytkbdidpodcclfaa
open Go.RowKit

/-- is a number from one to another -/
theorem in_any (x lo hi : Int) (w : World) : Calls Try.prog 38 #[.int .i64 x, .int .i64 lo, .int .i64 hi] w fun e w' => e = .returned (.bool (decide (lo ≤ x) && decide (x ≤ hi))) ∧ w = w' := by
  by_cases h : lo ≤ x
  · go_enter Try.func38, Try.ntmps38
    go_wp2
    go_ret
    exact ⟨by simp [h], rfl⟩
  · go_enter Try.func38, Try.ntmps38
    go_wp2
    go_ret
    exact ⟨by simp; intro; omega, rfl⟩
end Go.Proofs.Ytkbdidpodcclfaa

/- Ends of rods: their copies, whether they are valid. -/
namespace Go.Proofs.Ytkbdidpodcclfaa
open Go.RowKit

/-- an end, by value -/
def endV (k : Int) (x y : Nat) : Value := .agg #[.int .i64 k, .float .f32 x, .float .f32 y]

def kOk (k : Int) : Bool := decide (0 ≤ k) && decide (k ≤ 2)
def vEnd (k : Int) (x y : Nat) : Bool := kOk k && fin .f32 x && pos y

theorem toEnd_any (k : Int) (x y : Nat) (w : World) : Calls Try.prog 28 #[endV k x y] w fun e w' => e = .returned (endV k x y) ∧ Below w.heap.size w w' := by
  unfold endV
  go_enter Try.func28, Try.ntmps28
  go_wp2
  refine bodyPost_ret (v := .agg #[.int .i64 k, .float .f32 x, .float .f32 y]) ?_ rfl ?_
  · rw [results_cell1 rfl]
    go_simp
  · exact ⟨rfl, below_al3 _ _ _ _⟩

theorem specEnd_any (k : Int) (x y : Nat) (b : Nat) (w : World) (h0 : w.cell? ⟨b, 0, none⟩ = some (.int .i64 k)) (h1 : w.cell? ⟨b, 1, none⟩ = some (.float .f32 x)) (h2 : w.cell? ⟨b, 2, none⟩ = some (.float .f32 y)) :
    Calls Try.prog 79 #[.pointer (some ⟨b, 0, none⟩)] w (Bol (vEnd k x y) w) := by
  cases hk : kOk k
  · have hk' : (decide ((0:Int) ≤ k) && decide (k ≤ 2)) = false := hk
    go_enter Try.func79, Try.ntmps79
    go_wp2_with (first | (go_at_call 38; refine (in_any k 0 2 _).mono ?_; rw [hk']; rintro e w' ⟨rfl, rfl⟩) | (go_at_call 70; refine (specFinite_any _ _).mono ?_; rw [hf]; rintro e w' ⟨rfl, n, rfl⟩))
    go_ret
    exact ⟨by simp [vEnd, hk], 0, rfl⟩
  · have hk' : (decide ((0:Int) ≤ k) && decide (k ≤ 2)) = true := hk
    cases hf : fin .f32 x
    · go_enter Try.func79, Try.ntmps79
      go_wp2_with (first | (go_at_call 38; refine (in_any k 0 2 _).mono ?_; rw [hk']; rintro e w' ⟨rfl, rfl⟩) | (go_at_call 70; refine (specFinite_any _ _).mono ?_; rw [hf]; rintro e w' ⟨rfl, n, rfl⟩))
      go_ret
      exact ⟨by simp [vEnd, hf], _, rfl⟩
    · go_enter Try.func79, Try.ntmps79
      go_wp2_with (first | (go_at_call 38; refine (in_any k 0 2 _).mono ?_; rw [hk']; rintro e w' ⟨rfl, rfl⟩) | (go_at_call 70; refine (specFinite_any _ _).mono ?_; rw [hf]; rintro e w' ⟨rfl, n, rfl⟩) | (go_at_call 61; refine (specAbove_any _ _).mono ?_; rintro e w' ⟨rfl, n, rfl⟩))
      go_ret
      exact ⟨by simp [vEnd, hf, hk], _, rfl⟩


theorem implVEnd_any (k : Int) (x y : Nat) (w : World) : Calls Try.prog 71 #[endV k x y] w (BolB (vEnd k x y) w) := by
  unfold endV
  by_cases h0 : 0 ≤ k
  · by_cases h2 : k ≤ 2
    · have hk : kOk k = true := by simp [kOk, h0, h2]
      cases hf : fin .f32 x
      · go_enter Try.func71, Try.ntmps71
        go_wp2_with (first | (go_at_call 78; refine (implFinite_any _ _).mono ?_; rw [hf]; rintro e w' ⟨rfl, n, rfl⟩) | (go_at_call 77; refine (implPos_any _ _).mono ?_; rintro e w' ⟨rfl, n, rfl⟩))
        go_ret
        exact ⟨by simp [vEnd, hf], below_drewN (below_al1 _ _) _⟩
      · go_enter Try.func71, Try.ntmps71
        go_wp2_with (first | (go_at_call 78; refine (implFinite_any _ _).mono ?_; rw [hf]; rintro e w' ⟨rfl, n, rfl⟩) | (go_at_call 77; refine (implPos_any _ _).mono ?_; rintro e w' ⟨rfl, n, rfl⟩))
        go_ret
        exact ⟨by simp [vEnd, hf, hk], by simpa using below_drewN (below_al1 _ _) _⟩
    · have hk : kOk k = false := by simp [kOk, h2]
      go_enter Try.func71, Try.ntmps71
      go_wp2
      go_ret
      exact ⟨by simp [vEnd, hk], below_al1 _ _⟩
  · have hk : kOk k = false := by simp [kOk, h0]
    go_enter Try.func71, Try.ntmps71
    go_wp2
    go_ret
    exact ⟨by simp [vEnd, hk], below_al1 _ _⟩

end Go.Proofs.Ytkbdidpodcclfaa

/- What the walks of laws over rods that hand back a list share. -/
namespace Go.Proofs.Ytkbdidpodcclfaa
open Go.RowKit
set_option linter.unusedVariables false

/-- it is a list and a bool -/
def fLB (S : List Nat) (ok : Bool) : Fct := ⟨fun v w => ∃ u zs, v = .tuple #[u, .bool ok] ∧ FRow w u zs ∧ zs.map (cn .f32) = S, fun _ => Pers.ex fun _ => Pers.ex fun _ => Pers.and (Pers.const _) (Pers.and (fun _ _ h hb => h.below hb) (Pers.const _))⟩
theorem lb_at {S : List Nat} {ok : Bool} {u : Value} {w : World} (h : (fLB S ok).1 (.tuple #[u, .bool ok]) w) : ∃ zs, FRow w u zs ∧ zs.map (cn .f32) = S := by
  obtain ⟨u', zs, e, hc⟩ := h
  simp at e
  obtain rfl := e
  exact ⟨zs, hc⟩
/-- .. a list of its own -/
def fLO (B : Nat) (S : List Nat) (ok : Bool) : Fct := ⟨fun v w => ∃ u zs, v = .tuple #[u, .bool ok] ∧ ORow B w u zs ∧ zs.map (cn .f32) = S, fun _ => Pers.ex fun _ => Pers.ex fun _ => Pers.and (Pers.const _) (Pers.and (fun _ _ h hb => h.kept hb) (Pers.const _))⟩
theorem lo_at {B : Nat} {S : List Nat} {ok : Bool} {u : Value} {w : World} (h : (fLO B S ok).1 (.tuple #[u, .bool ok]) w) : ∃ zs, ORow B w u zs ∧ zs.map (cn .f32) = S := by
  obtain ⟨u', zs, e, hc⟩ := h
  simp at e
  obtain rfl := e
  exact ⟨zs, hc⟩
theorem ORow.tur {h : Nat} {S : Nat → Prop} {w w' : World} {v : Value} {zs : List Nat} (H : ORow h w v zs) (t : Tur S w w') (hS : ∀ j, h ≤ j → ¬ S j) : ORow h w' v zs := by
  rcases H with H | ⟨g, o, c, rfl, hg, hr⟩
  · exact .inl H
  · exact .inr ⟨g, o, c, rfl, hg, hr.of_block (t.block g hr.lt (hS g hg))⟩
theorem below_lower {B B' : Nat} {w w' : World} (h : Below B w w') (hb : B' ≤ B) : Below B' w w' := ⟨h.os, h.tape, h.output, h.size, fun k hk => h.block k (Nat.lt_of_lt_of_le hk hb)⟩
end Go.Proofs.Ytkbdidpodcclfaa

/- Whether a rod is valid, as the specification tells. -/
namespace Go.Proofs.Ytkbdidpodcclfaa
open Go.RowKit

def okAt (r : RL) (k : Nat) : Bool := pos (r.W.getD k 0) && pos (r.E.getD k 0) && pos (r.H.getD k 0) && fin .f32 (r.T.getD k 0)
def lensOk (r : RL) : Bool := decide (1 ≤ r.W.length) && decide (r.W.length ≤ 48) && (r.E.length == r.W.length) && (r.H.length == r.W.length) && (r.T.length == r.W.length)
def vRod (r : RL) : Bool := lensOk r && (List.range r.W.length).all (okAt r)

theorem vRod_no {r : RL} (hl : lensOk r = true) {k : Nat} (hk : k < r.W.length) (h : okAt r k = false) : vRod r = false := by
  unfold vRod
  rw [hl, Bool.true_and, List.all_eq_false]
  exact ⟨k, by simpa using hk, by simp [h]⟩
theorem vRod_yes {r : RL} (hl : lensOk r = true) (h : ∀ j, j < r.W.length → okAt r j = true) : vRod r = true := by
  unfold vRod
  rw [hl, Bool.true_and, List.all_eq_true]
  intro x hx
  exact h x (by simpa using hx)

theorem specIs_len (a b c d : Value) (r : RL) (p : Nat) (w : World) (A : Cells w p [a, b, c, d]) (h : RRow w a b c d r) (hl : lensOk r = false) :
    Calls Try.prog 44 #[.pointer (some ⟨p, 0, none⟩)] w (Bol false w) := by
  have c0 := A.at 0 rfl
  have c1 := A.at 1 rfl
  have c2 := A.at 2 rfl
  have c3 := A.at 3 rfl
  have N1 := h.W.len
  obtain ⟨a1, a2, rfl⟩ := h.W.shape
  obtain ⟨b1, b2, rfl⟩ := h.E.shape
  obtain ⟨d1, d2, rfl⟩ := h.H.shape
  obtain ⟨e1, e2, rfl⟩ := h.T.shape
  clear A h
  unfold lensOk at hl
  generalize r.W.length = n at *
  generalize r.E.length = m1 at *
  generalize r.H.length = m2 at *
  generalize r.T.length = m3 at *
  by_cases g1 : 1 ≤ n
  · by_cases g2 : n ≤ 48
    · have f1 : decide ((n : Int) < 1) = false := by simp; omega
      have f2 : decide ((48 : Int) < n) = false := by simp; omega
      by_cases g3 : m1 = n
      · subst g3
        by_cases g4 : m2 = m1
        · subst g4
          have g5 : ¬ m3 = m2 := by simpa [g1, g2] using hl
          have f5 : ((m3 : Int) == (m2 : Int)) = false := by simp; omega
          have f5' : ((m3 : Int) != (m2 : Int)) = true := by simp; omega
          clear hl
          go_enter Try.func44, Try.ntmps44
          go_wp2
          go_ret
          exact ⟨rfl, 0, rfl⟩
        · have f4 : ((m2 : Int) == (m1 : Int)) = false := by simp; omega
          have f4' : ((m2 : Int) != (m1 : Int)) = true := by simp; omega
          clear hl
          go_enter Try.func44, Try.ntmps44
          go_wp2
          go_ret
          exact ⟨rfl, 0, rfl⟩
      · have f3 : ((m1 : Int) == (n : Int)) = false := by simp; omega
        have f3' : ((m1 : Int) != (n : Int)) = true := by simp; omega
        clear hl
        go_enter Try.func44, Try.ntmps44
        go_wp2
        go_ret
        exact ⟨rfl, 0, rfl⟩
    · have f1 : decide ((n : Int) < 1) = false := by simp; omega
      have f2 : decide ((48 : Int) < n) = true := by simp; omega
      clear hl
      go_enter Try.func44, Try.ntmps44
      go_wp2
      go_ret
      exact ⟨rfl, 0, rfl⟩
  · have f1 : decide ((n : Int) < 1) = true := by simp; omega
    clear hl
    go_enter Try.func44, Try.ntmps44
    go_wp2
    go_ret
    exact ⟨rfl, 0, rfl⟩

set_option maxHeartbeats 1600000 in
theorem specIs_ok (a b c d : Value) (r : RL) (p : Nat) (w : World) (A : Cells w p [a, b, c, d]) (h : RRow w a b c d r) (hl : lensOk r = true) :
    Calls Try.prog 44 #[.pointer (some ⟨p, 0, none⟩)] w (Bol (vRod r) w) := by
  have c0 := A.at 0 rfl
  have c1 := A.at 1 rfl
  have c2 := A.at 2 rfl
  have c3 := A.at 3 rfl
  have VN := Lib.hid (fun k (hk : k < r.W.length) (h : okAt r k = false) => vRod_no hl hk h)
  have VY := Lib.hid (fun h => vRod_yes hl h)
  have OK : Hid (∀ k, okAt r k = (pos (r.W.getD k 0) && pos (r.E.getD k 0) && pos (r.H.getD k 0) && fin .f32 (r.T.getD k 0))) := Lib.hid (fun k => rfl)
  obtain ⟨⟨⟨⟨g1, g2⟩, g3⟩, g4⟩, g5⟩ : (((1 ≤ r.W.length ∧ r.W.length ≤ 48) ∧ r.E.length = r.W.length) ∧ r.H.length = r.W.length) ∧ r.T.length = r.W.length := by simpa [lensOk] using hl
  obtain ⟨b0, o0, k0, rfl, h0⟩ := h.W.cells g1
  obtain ⟨b1, o1, k1, rfl, h1⟩ := h.E.cells (by omega)
  obtain ⟨b2, o2, k2, rfl, h2⟩ := h.H.cells (by omega)
  obtain ⟨b3, o3, k3, rfl, h3⟩ := h.T.cells (by omega)
  rw [g3] at h1 c1
  rw [g4] at h2 c2
  rw [g5] at h3 c3
  clear A h hl g3 g4 g5
  generalize r.W.length = n at *
  have f1 : decide ((n : Int) < 1) = false := by simp; omega
  have f2 : decide ((48 : Int) < n) = false := by simp; omega
  have G := Lib.hid g2
  clear g1 g2
  go_enter Try.func44, Try.ntmps44
  go_wp2
  go_loopw [4] (fun i wr => ∃ k q : Nat, k ≤ n ∧ i = .int .i64 k ∧ Hid (∀ j, j < k → okAt r j = true) ∧ wr = w.drewN q) (fun i _ => n - (intOf i).toNat)
  case atStart => exact ⟨0, 0, Nat.zero_le _, rfl, Lib.hid (fun j hj => absurd hj (Nat.not_lt_zero _)), rfl⟩
  case round =>
    obtain ⟨k, q, hk, rfl, hall, rfl⟩ := hrel
    by_cases hlt : k < n
    · have z0 := h0 k hlt
      have z1 := h1 k hlt
      have z2 := h2 k hlt
      have z3 := h3 k hlt
      have hG := G.out
      have hi : (0 : Int) ≤ (k : Int) := by omega
      have hi' : (k : Int) < (n : Int) := by omega
      have VNk := Lib.hid (VN.out k hlt)
      clear h0 h1 h2 h3
      have O := Lib.hid (OK.out k)
      generalize hy0 : (r.W.getD k 0) = y0 at *
      generalize hy1 : (r.E.getD k 0) = y1 at *
      generalize hy2 : (r.H.getD k 0) = y2 at *
      generalize hy3 : (r.T.getD k 0) = y3 at *
      clear hy0 hy1 hy2 hy3
      cases B0 : pos y0
      · have O' := Lib.hid (VNk.out (by rw [O.out]; simp [B0]))
        clear O
        go_wp2_with (first | (go_at_call_of 61 y0; refine (specAbove_any y0 _).mono ?_; rw [B0]; rintro e w' ⟨rfl, n0, rfl⟩))
        go_ret
        exact ⟨ret_b O'.out, _, rfl⟩
      · cases B1 : pos y1
        · have O' := Lib.hid (VNk.out (by rw [O.out]; simp [B0, B1]))
          clear O
          go_wp2_with (first | (go_at_call_of 61 y0; refine (specAbove_any y0 _).mono ?_; rw [B0]; rintro e w' ⟨rfl, n0, rfl⟩) | (go_at_call_of 61 y1; refine (specAbove_any y1 _).mono ?_; rw [B1]; rintro e w' ⟨rfl, n1, rfl⟩))
          go_ret
          exact ⟨ret_b O'.out, _, rfl⟩
        · cases B2 : pos y2
          · have O' := Lib.hid (VNk.out (by rw [O.out]; simp [B0, B1, B2]))
            clear O
            go_wp2_with (first | (go_at_call_of 61 y0; refine (specAbove_any y0 _).mono ?_; rw [B0]; rintro e w' ⟨rfl, n0, rfl⟩) | (go_at_call_of 61 y1; refine (specAbove_any y1 _).mono ?_; rw [B1]; rintro e w' ⟨rfl, n1, rfl⟩) | (go_at_call_of 61 y2; refine (specAbove_any y2 _).mono ?_; rw [B2]; rintro e w' ⟨rfl, n2, rfl⟩))
            go_ret
            exact ⟨ret_b O'.out, _, rfl⟩
          · cases B3 : fin .f32 y3
            · have O' := Lib.hid (VNk.out (by rw [O.out]; simp [B0, B1, B2, B3]))
              clear O
              go_wp2_with (first | (go_at_call_of 61 y0; refine (specAbove_any y0 _).mono ?_; rw [B0]; rintro e w' ⟨rfl, n0, rfl⟩) | (go_at_call_of 61 y1; refine (specAbove_any y1 _).mono ?_; rw [B1]; rintro e w' ⟨rfl, n1, rfl⟩) | (go_at_call_of 61 y2; refine (specAbove_any y2 _).mono ?_; rw [B2]; rintro e w' ⟨rfl, n2, rfl⟩) | (go_at_call_of 70 y3; refine (specFinite_any y3 _).mono ?_; rw [B3]; rintro e w' ⟨rfl, n3, rfl⟩))
              go_ret
              exact ⟨ret_b O'.out, _, rfl⟩
            · have O' := Lib.hid (show okAt r k = true by rw [O.out]; simp [B0, B1, B2, B3])
              clear O
              go_wp2_with (first | (go_at_call_of 61 y0; refine (specAbove_any y0 _).mono ?_; rw [B0]; rintro e w' ⟨rfl, n0, rfl⟩) | (go_at_call_of 61 y1; refine (specAbove_any y1 _).mono ?_; rw [B1]; rintro e w' ⟨rfl, n1, rfl⟩) | (go_at_call_of 61 y2; refine (specAbove_any y2 _).mono ?_; rw [B2]; rintro e w' ⟨rfl, n2, rfl⟩) | (go_at_call_of 70 y3; refine (specFinite_any y3 _).mono ?_; rw [B3]; rintro e w' ⟨rfl, n3, rfl⟩))
              go_roundw
              case rel => exact ⟨k + 1, _, by omega, by go_num, Lib.hid (fun j hj => by rcases Nat.lt_succ_iff_lt_or_eq.1 hj with h | h; exact hall.out j h; subst h; exact O'.out), rfl⟩
              case measure => simp [intOf]; omega
    · have e := Lib.hid (show k = n by omega)
      clear h0 h1 h2 h3
      go_wp2
      go_ret
      have := e.out
      subst this
      exact ⟨ret_b (VY.out hall.out), _, rfl⟩

theorem specIs_any (a b c d : Value) (r : RL) (p : Nat) (w : World) (A : Cells w p [a, b, c, d]) (h : RRow w a b c d r) :
    Calls Try.prog 44 #[.pointer (some ⟨p, 0, none⟩)] w (Bol (vRod r) w) := by
  cases hl : lensOk r
  · have : vRod r = false := by simp [vRod, hl]
    rw [this]
    exact specIs_len a b c d r p w A h hl
  · exact specIs_ok a b c d r p w A h hl

end Go.Proofs.Ytkbdidpodcclfaa

/- Whether all numbers of a list are are finite. -/
namespace Go.Proofs.Ytkbdidpodcclfaa
open Go.RowKit

/-- an index, or -1 -/
def Idx (b : Bool) (w : World) (e : Ending) (w' : World) : Prop := ∃ i : Int, e = .returned (.int .i64 i) ∧ decide (0 ≤ i) = b ∧ ∃ n, w' = w.drewN n
theorem any_some {f : Nat → Bool} {zs : List Nat} {k : Nat} (hk : k < zs.length) (h : f (zs.getD k 0) = true) : zs.any f = true := by
  rw [List.any_eq_true]
  refine ⟨zs.getD k 0, ?_, h⟩
  simp [List.getD_eq_getElem?_getD, hk]
theorem not_any_not (f : Nat → Bool) (zs : List Nat) : (!(zs.any (fun z => !(f z)))) = zs.all f := by
  induction zs with
  | nil => rfl
  | cons x xs ih => simp only [List.any_cons, List.all_cons, ← ih]; cases f x <;> simp
theorem any_none {f : Nat → Bool} {zs : List Nat} (h : ∀ k, k < zs.length → f (zs.getD k 0) = false) : zs.any f = false := by
  rw [List.any_eq_false]
  intro x hx
  obtain ⟨i, hi, rfl⟩ := List.mem_iff_getElem.1 hx
  have := h i hi
  simpa [List.getD_eq_getElem?_getD, hi] using this

theorem litFin_any (y q : Nat) (w : World) (hq : w.cell? ⟨q, 0, none⟩ = some (.func (.func 78) #[] #[])) :
    Calls Try.prog 100 #[.float .f32 y, .pointer (some ⟨q, 0, none⟩)] w (Bol (!(fin .f32 y)) w) := by
  go_enter Try.func100, Try.ntmps100
  go_wp2_with (go_at_call 78; refine (implFinite_any _ _).mono ?_; rintro e w' ⟨rfl, n, rfl⟩)
  go_ret
  exact ⟨rfl, _, rfl⟩

theorem idxFin_any (v : Value) (zs : List Nat) (q : Nat) (w : World) (h : FRow w v zs) (hq : w.cell? ⟨q, 0, none⟩ = some (.func (.func 78) #[] #[])) :
    Calls Try.prog 111 #[v, .func (.func 100) #[] #[.pointer (some ⟨q, 0, none⟩)]] w (Idx (zs.any (fun z => !(fin .f32 z))) w) := by
  have VS := Lib.hid (fun k (hk : k < zs.length) (h : (!(fin .f32 (zs.getD k 0))) = true) => any_some (f := fun z => !(fin .f32 z)) hk h)
  have VN := Lib.hid (fun h => any_none (f := fun z => !(fin .f32 z)) (zs := zs) h)
  have HC := Lib.hid (fun (hn : 1 ≤ zs.length) => h.cells hn)
  have HL := Lib.hid h.len
  obtain ⟨a, cap, rfl⟩ := h.shape
  clear h
  generalize hb : zs.any (fun z => !(fin .f32 z)) = b at *
  clear hb
  have HG : Hid (∀ k, zs.getD k 0 = zs.getD k 0) := Lib.hid (fun k => rfl)
  generalize hn : zs.length = n at *
  clear hn
  go_enter Try.func111, Try.ntmps111
  go_wp2
  go_loopw [5, 8] (fun _ i wr => ∃ k q : Nat, k ≤ n ∧ i = .int .i64 k ∧ Hid (∀ j, j < k → (!(fin .f32 (zs.getD j 0))) = false) ∧ wr = w.drewN q) (fun _ i _ => n - (intOf i).toNat)
  case atStart => exact ⟨0, 0, Nat.zero_le _, rfl, Lib.hid (fun j hj => absurd hj (Nat.not_lt_zero _)), rfl⟩
  case round =>
    obtain ⟨k, q, hk, rfl, hall, rfl⟩ := hrel
    by_cases hlt : k < n
    · obtain ⟨b0, o0, cap', e, hc⟩ := HC.out (by omega)
      have ea : a = some ⟨b0, o0, none⟩ := by cases e; rfl
      have z0 := hc k hlt
      have VSk := Lib.hid (VS.out k hlt)
      clear e hc
      subst ea
      have hG := HL.out
      have hi : (0 : Int) ≤ (k : Int) := by omega
      have hi' : (k : Int) < (n : Int) := by omega
      generalize hy : zs.getD k 0 = y at *
      cases B : fin .f32 y
      · have V := Lib.hid (VSk.out (by rw [B]; rfl))
        go_wp2_with (go_at_call 100; refine (litFin_any y _ _ (by simpa using hq)).mono ?_; rw [B]; rintro e w' ⟨rfl, n, rfl⟩)
        go_ret
        exact ⟨_, rfl, by rw [V.out]; simp, _, rfl⟩
      · have V := Lib.hid (show (!(fin .f32 (zs.getD k 0))) = false by rw [hy, B]; rfl)
        clear hy
        go_wp2_with (go_at_call 100; refine (litFin_any y _ _ (by simpa using hq)).mono ?_; rw [B]; rintro e w' ⟨rfl, n, rfl⟩)
        go_roundw
        case rel => exact ⟨k + 1, _, by omega, by go_num, Lib.hid (fun j hj => by rcases Nat.lt_succ_iff_lt_or_eq.1 hj with h | h; exact hall.out j h; subst h; exact V.out), rfl⟩
        case measure => simp [intOf]; omega
    · have e := Lib.hid (show k = n by omega)
      go_wp2
      go_ret
      have := e.out
      subst this
      exact ⟨_, rfl, by rw [VN.out hall.out]; rfl, _, rfl⟩

theorem allFin_any (v : Value) (zs : List Nat) (w : World) (h : FRow w v zs) : Calls Try.prog 76 #[v, .func (.func 78) #[] #[]] w (BolB (zs.all (fin .f32)) w) := by
  have H := Lib.hid (h.below (below_al1 w (.cells [Value.func (.func 78) #[] #[]].toArray 70)))
  have e := Lib.hid (show (!(zs.any (fun z => !(fin .f32 z)))) = zs.all (fin .f32) from not_any_not _ _)
  clear h
  go_enter Try.func76, Try.ntmps76
  go_wp2_with (first | (go_at_call 111; refine (idxFin_any _ zs _ _ H.out (by simp)).mono ?_; rintro e w' ⟨i, rfl, hi, n, rfl⟩) | go_in)
  go_ret
  exact ⟨ret_b e.out.symm, below_drewN (below_al1 _ _) _⟩

end Go.Proofs.Ytkbdidpodcclfaa

/- Whether all numbers of a list are greater than 0. -/
namespace Go.Proofs.Ytkbdidpodcclfaa
open Go.RowKit

theorem litPos_any (y q : Nat) (w : World) (hq : w.cell? ⟨q, 0, none⟩ = some (.func (.func 77) #[] #[])) :
    Calls Try.prog 100 #[.float .f32 y, .pointer (some ⟨q, 0, none⟩)] w (Bol (!(pos y)) w) := by
  go_enter Try.func100, Try.ntmps100
  go_wp2_with (go_at_call 77; refine (implPos_any _ _).mono ?_; rintro e w' ⟨rfl, n, rfl⟩)
  go_ret
  exact ⟨rfl, _, rfl⟩

theorem idxPos_any (v : Value) (zs : List Nat) (q : Nat) (w : World) (h : FRow w v zs) (hq : w.cell? ⟨q, 0, none⟩ = some (.func (.func 77) #[] #[])) :
    Calls Try.prog 111 #[v, .func (.func 100) #[] #[.pointer (some ⟨q, 0, none⟩)]] w (Idx (zs.any (fun z => !(pos z))) w) := by
  have VS := Lib.hid (fun k (hk : k < zs.length) (h : (!(pos (zs.getD k 0))) = true) => any_some (f := fun z => !(pos z)) hk h)
  have VN := Lib.hid (fun h => any_none (f := fun z => !(pos z)) (zs := zs) h)
  have HC := Lib.hid (fun (hn : 1 ≤ zs.length) => h.cells hn)
  have HL := Lib.hid h.len
  obtain ⟨a, cap, rfl⟩ := h.shape
  clear h
  generalize hb : zs.any (fun z => !(pos z)) = b at *
  clear hb
  have HG : Hid (∀ k, zs.getD k 0 = zs.getD k 0) := Lib.hid (fun k => rfl)
  generalize hn : zs.length = n at *
  clear hn
  go_enter Try.func111, Try.ntmps111
  go_wp2
  go_loopw [5, 8] (fun _ i wr => ∃ k q : Nat, k ≤ n ∧ i = .int .i64 k ∧ Hid (∀ j, j < k → (!(pos (zs.getD j 0))) = false) ∧ wr = w.drewN q) (fun _ i _ => n - (intOf i).toNat)
  case atStart => exact ⟨0, 0, Nat.zero_le _, rfl, Lib.hid (fun j hj => absurd hj (Nat.not_lt_zero _)), rfl⟩
  case round =>
    obtain ⟨k, q, hk, rfl, hall, rfl⟩ := hrel
    by_cases hlt : k < n
    · obtain ⟨b0, o0, cap', e, hc⟩ := HC.out (by omega)
      have ea : a = some ⟨b0, o0, none⟩ := by cases e; rfl
      have z0 := hc k hlt
      have VSk := Lib.hid (VS.out k hlt)
      clear e hc
      subst ea
      have hG := HL.out
      have hi : (0 : Int) ≤ (k : Int) := by omega
      have hi' : (k : Int) < (n : Int) := by omega
      generalize hy : zs.getD k 0 = y at *
      cases B : pos y
      · have V := Lib.hid (VSk.out (by rw [B]; rfl))
        go_wp2_with (go_at_call 100; refine (litPos_any y _ _ (by simpa using hq)).mono ?_; rw [B]; rintro e w' ⟨rfl, n, rfl⟩)
        go_ret
        exact ⟨_, rfl, by rw [V.out]; simp, _, rfl⟩
      · have V := Lib.hid (show (!(pos (zs.getD k 0))) = false by rw [hy, B]; rfl)
        clear hy
        go_wp2_with (go_at_call 100; refine (litPos_any y _ _ (by simpa using hq)).mono ?_; rw [B]; rintro e w' ⟨rfl, n, rfl⟩)
        go_roundw
        case rel => exact ⟨k + 1, _, by omega, by go_num, Lib.hid (fun j hj => by rcases Nat.lt_succ_iff_lt_or_eq.1 hj with h | h; exact hall.out j h; subst h; exact V.out), rfl⟩
        case measure => simp [intOf]; omega
    · have e := Lib.hid (show k = n by omega)
      go_wp2
      go_ret
      have := e.out
      subst this
      exact ⟨_, rfl, by rw [VN.out hall.out]; rfl, _, rfl⟩

theorem allPos_any (v : Value) (zs : List Nat) (w : World) (h : FRow w v zs) : Calls Try.prog 76 #[v, .func (.func 77) #[] #[]] w (BolB (zs.all (pos)) w) := by
  have H := Lib.hid (h.below (below_al1 w (.cells [Value.func (.func 77) #[] #[]].toArray 70)))
  have e := Lib.hid (show (!(zs.any (fun z => !(pos z)))) = zs.all (pos) from not_any_not _ _)
  clear h
  go_enter Try.func76, Try.ntmps76
  go_wp2_with (first | (go_at_call 111; refine (idxPos_any _ zs _ _ H.out (by simp)).mono ?_; rintro e w' ⟨i, rfl, hi, n, rfl⟩) | go_in)
  go_ret
  exact ⟨ret_b e.out.symm, below_drewN (below_al1 _ _) _⟩
end Go.Proofs.Ytkbdidpodcclfaa

/- Whether a rod is valid, as the program tells. -/
namespace Go.Proofs.Ytkbdidpodcclfaa
open Go.RowKit

theorem vRod_split {r : RL} (hl : lensOk r = true) : vRod r = (r.W.all pos && r.E.all pos && r.H.all pos && r.T.all (fin .f32)) := by
  have hl' := hl
  obtain ⟨⟨⟨⟨g1, g2⟩, g3⟩, g4⟩, g5⟩ : (((1 ≤ r.W.length ∧ r.W.length ≤ 48) ∧ r.E.length = r.W.length) ∧ r.H.length = r.W.length) ∧ r.T.length = r.W.length := by simpa [lensOk] using hl
  have key : ∀ (f : Nat → Bool) (zs : List Nat), zs.all f = true ↔ ∀ k, k < zs.length → f (zs.getD k 0) = true := fun f zs => by
    rw [List.all_eq_true]
    constructor
    · intro h k hk
      exact h _ (by simp [List.getD_eq_getElem?_getD, hk])
    · intro h x hx
      obtain ⟨i, hi, rfl⟩ := List.mem_iff_getElem.1 hx
      have := h i hi
      simpa [List.getD_eq_getElem?_getD, hi] using this
  unfold vRod
  rw [hl', Bool.true_and, Bool.eq_iff_iff, List.all_eq_true]
  simp only [Bool.and_eq_true, key, g3, g4, g5, List.mem_range, okAt]
  constructor
  · intro h
    exact ⟨⟨⟨fun k hk => (h k hk).1.1.1, fun k hk => (h k hk).1.1.2⟩, fun k hk => (h k hk).1.2⟩, fun k hk => (h k hk).2⟩
  · rintro ⟨⟨⟨h1, h2⟩, h3⟩, h4⟩ k hk
    exact ⟨⟨⟨h1 k hk, h2 k hk⟩, h3 k hk⟩, h4 k hk⟩

theorem implValid_len (a b c d : Value) (r : RL) (w : World) (h : RRow w a b c d r) (hl : lensOk r = false) :
    Calls Try.prog 46 #[.agg #[a, b, c, d]] w (BolB false w) := by
  obtain ⟨a1, a2, rfl⟩ := h.W.shape
  obtain ⟨b1, b2, rfl⟩ := h.E.shape
  obtain ⟨d1, d2, rfl⟩ := h.H.shape
  obtain ⟨e1, e2, rfl⟩ := h.T.shape
  clear h
  unfold lensOk at hl
  generalize r.W.length = m1 at *
  generalize r.E.length = m2 at *
  generalize r.H.length = m3 at *
  generalize r.T.length = n at *
  by_cases g1 : 1 ≤ n
  · have f1 : decide ((1 : Int) ≤ n) = true := by simp; omega
    by_cases g2 : n ≤ 48
    · have f2 : decide ((n : Int) ≤ 48) = true := by simp; omega
      by_cases g3 : m1 = n
      · subst g3
        by_cases g4 : m2 = m1
        · subst g4
          have g5 : ¬ m3 = m2 := by simpa [g1, g2] using hl
          have f5 : ((m3 : Int) == (m2 : Int)) = false := by simp; omega
          clear hl
          go_enter Try.func46, Try.ntmps46
          go_wp2
          go_ret
          exact ⟨rfl, below_al1 _ _⟩
        · have f4 : ((m2 : Int) == (m1 : Int)) = false := by simp; omega
          clear hl
          go_enter Try.func46, Try.ntmps46
          go_wp2
          go_ret
          exact ⟨rfl, below_al1 _ _⟩
      · have f3 : ((m1 : Int) == (n : Int)) = false := by simp; omega
        clear hl
        go_enter Try.func46, Try.ntmps46
        go_wp2
        go_ret
        exact ⟨rfl, below_al1 _ _⟩
    · have f2 : decide ((n : Int) ≤ 48) = false := by simp; omega
      clear hl
      go_enter Try.func46, Try.ntmps46
      go_wp2
      go_ret
      exact ⟨rfl, below_al1 _ _⟩
  · have f1 : decide ((1 : Int) ≤ n) = false := by simp; omega
    clear hl
    go_enter Try.func46, Try.ntmps46
    go_wp2
    go_ret
    exact ⟨rfl, below_al1 _ _⟩

set_option maxHeartbeats 1600000 in
theorem implValid_ok (a b c d : Value) (r : RL) (w : World) (h : RRow w a b c d r) (hl : lensOk r = true) :
    Calls Try.prog 46 #[.agg #[a, b, c, d]] w (BolB (vRod r) w) := by
  have R := Lib.hid (fun w1 (hb : Below w.heap.size w w1) => h.below hb)
  rw [vRod_split hl]
  obtain ⟨⟨⟨⟨g1, g2⟩, g3⟩, g4⟩, g5⟩ : (((1 ≤ r.W.length ∧ r.W.length ≤ 48) ∧ r.E.length = r.W.length) ∧ r.H.length = r.W.length) ∧ r.T.length = r.W.length := by simpa [lensOk] using hl
  obtain ⟨b0, k0, rfl⟩ := h.W.shape
  obtain ⟨b1, k1, rfl⟩ := h.E.shape
  obtain ⟨b2, k2, rfl⟩ := h.H.shape
  obtain ⟨b3, k3, rfl⟩ := h.T.shape
  rw [g3, g4, g5] at R ⊢
  clear h hl g3 g4 g5
  generalize r.W.length = n at *
  have f1 : decide ((1 : Int) ≤ n) = true := by simp; omega
  have f2 : decide ((n : Int) ≤ 48) = true := by simp; omega
  have A := Lib.hid (Cells.made w [.slice b0 n k0, .slice b1 n k1, .slice b2 n k2, .slice b3 n k3] 25)
  have Bw := Lib.hid (below_al1 w (.cells [Value.slice b0 n k0, .slice b1 n k1, .slice b2 n k2, .slice b3 n k3].toArray 25))
  clear g1 g2
  cases B0 : r.W.all pos
  · go_enter Try.func46, Try.ntmps46
    go_wp2_with (first | (go_at_call_of 76 b0; refine (allPos_any _ _ _ (R.out _ Bw.out).W).mono ?_; rw [B0]; rintro e w' ⟨rfl, hb⟩; have Bw := Lib.hid (below_step Bw.out hb); have A := Lib.hid (A.out.kept hb); have c0 := A.out.at 0 rfl; have c1 := A.out.at 1 rfl; have c2 := A.out.at 2 rfl; have c3 := A.out.at 3 rfl; clear hb))
    go_ret
    exact ⟨ret_b (by simp), Bw.out⟩
  · cases B1 : r.E.all pos
    · go_enter Try.func46, Try.ntmps46
      go_wp2_with (first | (go_at_call_of 76 b0; refine (allPos_any _ _ _ (R.out _ Bw.out).W).mono ?_; rw [B0]; rintro e w' ⟨rfl, hb⟩; have Bw := Lib.hid (below_step Bw.out hb); have A := Lib.hid (A.out.kept hb); have c0 := A.out.at 0 rfl; have c1 := A.out.at 1 rfl; have c2 := A.out.at 2 rfl; have c3 := A.out.at 3 rfl; clear hb) | (go_at_call_of 76 b1; refine (allPos_any _ _ _ (R.out _ Bw.out).E).mono ?_; rw [B1]; rintro e w' ⟨rfl, hb⟩; have Bw := Lib.hid (below_step Bw.out hb); have A := Lib.hid (A.out.kept hb); have c0 := A.out.at 0 rfl; have c1 := A.out.at 1 rfl; have c2 := A.out.at 2 rfl; have c3 := A.out.at 3 rfl; clear hb))
      go_ret
      exact ⟨ret_b (by simp), Bw.out⟩
    · cases B2 : r.H.all pos
      · go_enter Try.func46, Try.ntmps46
        go_wp2_with (first | (go_at_call_of 76 b0; refine (allPos_any _ _ _ (R.out _ Bw.out).W).mono ?_; rw [B0]; rintro e w' ⟨rfl, hb⟩; have Bw := Lib.hid (below_step Bw.out hb); have A := Lib.hid (A.out.kept hb); have c0 := A.out.at 0 rfl; have c1 := A.out.at 1 rfl; have c2 := A.out.at 2 rfl; have c3 := A.out.at 3 rfl; clear hb) | (go_at_call_of 76 b1; refine (allPos_any _ _ _ (R.out _ Bw.out).E).mono ?_; rw [B1]; rintro e w' ⟨rfl, hb⟩; have Bw := Lib.hid (below_step Bw.out hb); have A := Lib.hid (A.out.kept hb); have c0 := A.out.at 0 rfl; have c1 := A.out.at 1 rfl; have c2 := A.out.at 2 rfl; have c3 := A.out.at 3 rfl; clear hb) | (go_at_call_of 76 b2; refine (allPos_any _ _ _ (R.out _ Bw.out).H).mono ?_; rw [B2]; rintro e w' ⟨rfl, hb⟩; have Bw := Lib.hid (below_step Bw.out hb); have A := Lib.hid (A.out.kept hb); have c0 := A.out.at 0 rfl; have c1 := A.out.at 1 rfl; have c2 := A.out.at 2 rfl; have c3 := A.out.at 3 rfl; clear hb))
        go_ret
        exact ⟨ret_b (by simp), Bw.out⟩
      · cases B3 : r.T.all (fin .f32)
        · go_enter Try.func46, Try.ntmps46
          go_wp2_with (first | (go_at_call_of 76 b0; refine (allPos_any _ _ _ (R.out _ Bw.out).W).mono ?_; rw [B0]; rintro e w' ⟨rfl, hb⟩; have Bw := Lib.hid (below_step Bw.out hb); have A := Lib.hid (A.out.kept hb); have c0 := A.out.at 0 rfl; have c1 := A.out.at 1 rfl; have c2 := A.out.at 2 rfl; have c3 := A.out.at 3 rfl; clear hb) | (go_at_call_of 76 b1; refine (allPos_any _ _ _ (R.out _ Bw.out).E).mono ?_; rw [B1]; rintro e w' ⟨rfl, hb⟩; have Bw := Lib.hid (below_step Bw.out hb); have A := Lib.hid (A.out.kept hb); have c0 := A.out.at 0 rfl; have c1 := A.out.at 1 rfl; have c2 := A.out.at 2 rfl; have c3 := A.out.at 3 rfl; clear hb) | (go_at_call_of 76 b2; refine (allPos_any _ _ _ (R.out _ Bw.out).H).mono ?_; rw [B2]; rintro e w' ⟨rfl, hb⟩; have Bw := Lib.hid (below_step Bw.out hb); have A := Lib.hid (A.out.kept hb); have c0 := A.out.at 0 rfl; have c1 := A.out.at 1 rfl; have c2 := A.out.at 2 rfl; have c3 := A.out.at 3 rfl; clear hb) | (go_at_call_of 76 b3; refine (allFin_any _ _ _ (R.out _ Bw.out).T).mono ?_; rw [B3]; rintro e w' ⟨rfl, hb⟩; have Bw := Lib.hid (below_step Bw.out hb); have A := Lib.hid (A.out.kept hb); have c0 := A.out.at 0 rfl; have c1 := A.out.at 1 rfl; have c2 := A.out.at 2 rfl; have c3 := A.out.at 3 rfl; clear hb))
          go_ret
          exact ⟨ret_b (by simp), Bw.out⟩
        · go_enter Try.func46, Try.ntmps46
          go_wp2_with (first | (go_at_call_of 76 b0; refine (allPos_any _ _ _ (R.out _ Bw.out).W).mono ?_; rw [B0]; rintro e w' ⟨rfl, hb⟩; have Bw := Lib.hid (below_step Bw.out hb); have A := Lib.hid (A.out.kept hb); have c0 := A.out.at 0 rfl; have c1 := A.out.at 1 rfl; have c2 := A.out.at 2 rfl; have c3 := A.out.at 3 rfl; clear hb) | (go_at_call_of 76 b1; refine (allPos_any _ _ _ (R.out _ Bw.out).E).mono ?_; rw [B1]; rintro e w' ⟨rfl, hb⟩; have Bw := Lib.hid (below_step Bw.out hb); have A := Lib.hid (A.out.kept hb); have c0 := A.out.at 0 rfl; have c1 := A.out.at 1 rfl; have c2 := A.out.at 2 rfl; have c3 := A.out.at 3 rfl; clear hb) | (go_at_call_of 76 b2; refine (allPos_any _ _ _ (R.out _ Bw.out).H).mono ?_; rw [B2]; rintro e w' ⟨rfl, hb⟩; have Bw := Lib.hid (below_step Bw.out hb); have A := Lib.hid (A.out.kept hb); have c0 := A.out.at 0 rfl; have c1 := A.out.at 1 rfl; have c2 := A.out.at 2 rfl; have c3 := A.out.at 3 rfl; clear hb) | (go_at_call_of 76 b3; refine (allFin_any _ _ _ (R.out _ Bw.out).T).mono ?_; rw [B3]; rintro e w' ⟨rfl, hb⟩; have Bw := Lib.hid (below_step Bw.out hb); have A := Lib.hid (A.out.kept hb); have c0 := A.out.at 0 rfl; have c1 := A.out.at 1 rfl; have c2 := A.out.at 2 rfl; have c3 := A.out.at 3 rfl; clear hb))
          go_ret
          exact ⟨ret_b (by simp), Bw.out⟩

theorem implValid_any (a b c d : Value) (r : RL) (w : World) (h : RRow w a b c d r) : Calls Try.prog 46 #[.agg #[a, b, c, d]] w (BolB (vRod r) w) := by
  cases hl : lensOk r
  · have : vRod r = false := by simp [vRod, hl]
    rw [this]
    exact implValid_len a b c d r w h hl
  · exact implValid_ok a b c d r w h hl

end Go.Proofs.Ytkbdidpodcclfaa

/- A number, and whether it is finite: what functions hand back that may fail. -/
namespace Go.Proofs.Ytkbdidpodcclfaa
open Go.RowKit

/-- a number if it is finite -/
def ifF (x : Nat) : Nat := if fin .f32 x then x else 0
theorem ifF_cn {x S : Nat} (h : cn .f32 x = S) : cn .f32 (ifF x) = ifF S ∧ fin .f32 x = fin .f32 S := by
  have hf : fin .f32 x = fin .f32 S := by rw [← h, fin_cn]
  refine ⟨?_, hf⟩
  unfold ifF
  rw [← hf]
  cases e : fin .f32 x
  · rfl
  · simp only [if_true]; exact h

/-- a number up to a not-a-number's bits, and a bool; nothing that was there has turned -/
def GivB (S : Nat) (b : Bool) (w : World) (e : Ending) (w' : World) : Prop := ∃ r, cn .f32 r = S ∧ e = .returned (.tuple #[.float .f32 r, .bool b]) ∧ Below w.heap.size w w'

theorem ret2_b {r : Nat} {b b' : Bool} (h : b = b') : Ending.returned (.tuple #[.float .f32 r, .bool b]) = Ending.returned (.tuple #[.float .f32 r, .bool b']) := by rw [h]
theorem GivB.num {x S : Nat} {w w' : World} (h : cn .f32 x = S) (hb : Below w.heap.size w w') : GivB (ifF S) (fin .f32 S) w (.returned (.tuple #[.float .f32 (ifF x), .bool (fin .f32 x)])) w' :=
  ⟨_, (ifF_cn h).1, ret2_b (ifF_cn h).2, hb⟩
theorem GivB.no {w w' : World} (hb : Below w.heap.size w w') : GivB 0 false w (.returned (.tuple #[.float .f32 0, .bool false])) w' := ⟨0, rfl, rfl, hb⟩

theorem specNum_any (x : Nat) (w : World) : Calls Try.prog 89 #[.float .f32 x] w fun e w' => e = .returned (.tuple #[.float .f32 (ifF x), .bool (fin .f32 x)]) ∧ ∃ n, w' = w.drewN n := by
  cases hf : fin .f32 x
  · go_enter Try.func89, Try.ntmps89
    go_wp2_with (go_at_call 70; refine (specFinite_any _ _).mono ?_; rw [hf]; rintro e w' ⟨rfl, n, rfl⟩)
    go_ret2
    exact ⟨by simp [ifF, hf], _, rfl⟩
  · go_enter Try.func89, Try.ntmps89
    go_wp2_with (go_at_call 70; refine (specFinite_any _ _).mono ?_; rw [hf]; rintro e w' ⟨rfl, n, rfl⟩)
    go_ret2
    exact ⟨by simp [ifF, hf], _, rfl⟩

theorem implNum_any (x : Nat) (w : World) : Calls Try.prog 93 #[.float .f32 x] w fun e w' => e = .returned (.tuple #[.float .f32 (ifF x), .bool (fin .f32 x)]) ∧ ∃ n, w' = w.drewN n := by
  cases hf : fin .f32 x
  · go_enter Try.func93, Try.ntmps93
    go_wp2_with (go_at_call 78; refine (implFinite_any _ _).mono ?_; rw [hf]; rintro e w' ⟨rfl, n, rfl⟩)
    go_ret2
    exact ⟨by simp [ifF, hf], _, rfl⟩
  · go_enter Try.func93, Try.ntmps93
    go_wp2_with (go_at_call 78; refine (implFinite_any _ _).mono ?_; rw [hf]; rintro e w' ⟨rfl, n, rfl⟩)
    go_ret2
    exact ⟨by simp [ifF, hf], _, rfl⟩

end Go.Proofs.Ytkbdidpodcclfaa

/- The four lists of a rod by their cells; what is told of each cell. -/
namespace Go.Proofs.Ytkbdidpodcclfaa
open Go.RowKit
set_option linter.unusedVariables false

/-- a 32-bit number up to a not-a-number's bits; nothing that was there has turned -/
def FlB (S : Nat) (w : World) (e : Ending) (w' : World) : Prop := ∃ x, cn .f32 x = S ∧ e = .returned (.float .f32 x) ∧ Below w.heap.size w w'
/-- .. and nothing is made -/
def FlD (S : Nat) (w : World) (e : Ending) (w' : World) : Prop := ∃ x, cn .f32 x = S ∧ e = .returned (.float .f32 x) ∧ ∃ n, w' = w.drewN n

/-- all lists of a rod are n long -/
structure Len (r : RL) (n : Nat) : Prop where
  W : r.W.length = n
  E : r.E.length = n
  H : r.H.length = n
  T : r.T.length = n
  p : 1 ≤ n
  q : n ≤ 48
theorem Len.of {r : RL} (hl : lensOk r = true) : Len r r.W.length := by
  obtain ⟨⟨⟨⟨g1, g2⟩, g3⟩, g4⟩, g5⟩ : (((1 ≤ r.W.length ∧ r.W.length ≤ 48) ∧ r.E.length = r.W.length) ∧ r.H.length = r.W.length) ∧ r.T.length = r.W.length := by simpa [lensOk] using hl
  exact ⟨rfl, g3, g4, g5, g1, g2⟩
theorem Len.ofV {r : RL} (hv : vRod r = true) : Len r r.W.length := Len.of (by unfold vRod at hv; simp only [Bool.and_eq_true] at hv; exact hv.1)

/-- four slices of n numbers each, by their cells -/
structure Lay (w : World) (n b0 o0 k0 b1 o1 k1 b2 o2 k2 b3 o3 k3 : Nat) (r : RL) : Prop where
  W : ∀ i, i < n → w.cell? ⟨b0, o0 + i, none⟩ = some (.float .f32 (r.W.getD i 0))
  E : ∀ i, i < n → w.cell? ⟨b1, o1 + i, none⟩ = some (.float .f32 (r.E.getD i 0))
  H : ∀ i, i < n → w.cell? ⟨b2, o2 + i, none⟩ = some (.float .f32 (r.H.getD i 0))
  T : ∀ i, i < n → w.cell? ⟨b3, o3 + i, none⟩ = some (.float .f32 (r.T.getD i 0))
theorem Lay.below {w w' : World} {n b0 o0 k0 b1 o1 k1 b2 o2 k2 b3 o3 k3 : Nat} {r : RL} (h : Lay w n b0 o0 k0 b1 o1 k1 b2 o2 k2 b3 o3 k3 r) (hb : Below w.heap.size w w') : Lay w' n b0 o0 k0 b1 o1 k1 b2 o2 k2 b3 o3 k3 r :=
  ⟨fun i hi => Ext.cell hb (h.W i hi), fun i hi => Ext.cell hb (h.E i hi), fun i hi => Ext.cell hb (h.H i hi), fun i hi => Ext.cell hb (h.T i hi)⟩
theorem RRow.lay {w : World} {a b c d : Value} {r : RL} {n : Nat} (h : RRow w a b c d r) (hl : Len r n) : ∃ b0 o0 k0 b1 o1 k1 b2 o2 k2 b3 o3 k3,
    a = .slice (some ⟨b0, o0, none⟩) n k0 ∧ b = .slice (some ⟨b1, o1, none⟩) n k1 ∧ c = .slice (some ⟨b2, o2, none⟩) n k2 ∧ d = .slice (some ⟨b3, o3, none⟩) n k3 ∧ Lay w n b0 o0 k0 b1 o1 k1 b2 o2 k2 b3 o3 k3 r := by
  obtain ⟨b0, o0, k0, rfl, h0⟩ := h.W.cells (by rw [hl.W]; exact hl.p)
  obtain ⟨b1, o1, k1, rfl, h1⟩ := h.E.cells (by rw [hl.E]; exact hl.p)
  obtain ⟨b2, o2, k2, rfl, h2⟩ := h.H.cells (by rw [hl.H]; exact hl.p)
  obtain ⟨b3, o3, k3, rfl, h3⟩ := h.T.cells (by rw [hl.T]; exact hl.p)
  rw [hl.W] at h0; rw [hl.E] at h1; rw [hl.H] at h2; rw [hl.T] at h3
  rw [hl.W, hl.E, hl.H, hl.T]
  exact ⟨_, _, _, _, _, _, _, _, _, _, _, _, rfl, rfl, rfl, rfl, h0, h1, h2, h3⟩

/-- what is told of a cell -/
def tW (r : RL) (k : Nat) : Nat := cn .f32 (r.W.getD k 0)
def tS (r : RL) (k : Nat) : Nat := fop .mul .f32 (cn .f32 (r.W.getD k 0)) (cn .f32 (r.H.getD k 0))
def tQ (r : RL) (k : Nat) : Nat := fop .mul .f32 (tS r k) (cn .f32 (r.T.getD k 0))
def tN (r : RL) (k : Nat) : Nat := fop .quo .f32 (cn .f32 (r.W.getD k 0)) (cn .f32 (r.E.getD k 0))
def sumT (f : Nat → Nat) (n : Nat) : Nat := (List.range n).foldl (fun s k => fop .add .f32 s (f k)) (cn .f32 0)
theorem sumT_succ (f : Nat → Nat) (k : Nat) : sumT f (k + 1) = fop .add .f32 (sumT f k) (f k) := by
  unfold sumT
  rw [List.range_succ, List.foldl_append]
  rfl
theorem cn_fop (op : BinOp) (k : FloatKind) (x y : Nat) : cn k (fop op k x y) = fop op k x y := by
  unfold fop
  cases h : floatBits op k x y with
  | none => exact cn_of_nan (nn_qn k)
  | some r => exact cn_of_num (floatBits_num h)

end Go.Proofs.Ytkbdidpodcclfaa

/- What is told of each cell of a rod, and what is added up of it. -/
namespace Go.Proofs.Ytkbdidpodcclfaa
open Go.RowKit
set_option linter.unusedVariables false

theorem storeOf_any {n b0 o0 k0 b1 o1 k1 b2 o2 k2 b3 o3 k3 : Nat} (r : RL) (k : Nat) (w : World) (h : Lay w n b0 o0 k0 b1 o1 k1 b2 o2 k2 b3 o3 k3 r) (hq : n ≤ 48) (hk : k < n) :
    Calls Try.prog 60 #[.agg #[.slice (some ⟨b0, o0, none⟩) n k0, .slice (some ⟨b1, o1, none⟩) n k1, .slice (some ⟨b2, o2, none⟩) n k2, .slice (some ⟨b3, o3, none⟩) n k3], .int .i64 k] w (FlB (tS r k) w) := by
  have z0 := h.W k hk
  have z2 := h.H k hk
  clear h
  have e : Hid (tS r k = fop .mul .f32 (cn .f32 (r.W.getD k 0)) (cn .f32 (r.H.getD k 0))) := Lib.hid rfl
  generalize r.W.getD k 0 = x at *
  generalize r.H.getD k 0 = y at *
  have hi : (0 : Int) ≤ (k : Int) := by omega
  have hi' : (k : Int) < (n : Int) := by omega
  have A := Cells.made w [.slice (some ⟨b0, o0, none⟩) n k0, .slice (some ⟨b1, o1, none⟩) n k1, .slice (some ⟨b2, o2, none⟩) n k2, .slice (some ⟨b3, o3, none⟩) n k3] 25
  have Bw := Lib.hid (below_al1 w (.cells [Value.slice (some ⟨b0, o0, none⟩) n k0, .slice (some ⟨b1, o1, none⟩) n k1, .slice (some ⟨b2, o2, none⟩) n k2, .slice (some ⟨b3, o3, none⟩) n k3].toArray 25))
  have FACT := Lib.hid (fun w1 (hw : Ext (w.alloc (.cells [Value.slice (some ⟨b0, o0, none⟩) n k0, .slice (some ⟨b1, o1, none⟩) n k1, .slice (some ⟨b2, o2, none⟩) n k2, .slice (some ⟨b3, o3, none⟩) n k3].toArray 25)) w1) => And.intro (hw.cell (A.at 0 rfl)) (And.intro (hw.cell (A.at 2 rfl)) (And.intro (hw.cell (Ext.cell (below_al1 _ _) z0)) (hw.cell (Ext.cell (below_al1 _ _) z2)))))
  clear A z0 z2
  go_enter Try.func60, Try.ntmps60
  go_wp2
  refine wp_region_looseC (Ext _) (fun _ _ _ => True) (Ext.start _) (by kernel_rfl) (by kernel_rfl) ?_
  repeat (first | (refine wpLoose_farithB rfl _ _ _ _ _ rfl rfl _ _ _ rfl rfl ?_; intro _ _) | (refine wpLoose_valK rfl ?_ (fun w1 hw1 => ?_) (fun K hK => ?_); rotate_left; (focus (have hF := FACT.out w1 hw1; go_simp; first | done | rfl)); go_simp; refine hK _ ?_; clear hK K))
  refine wpLoose_nil ?_; intro w1 hb
  go_wp2
  go_ret
  rename_i h1
  exact ⟨_, by rw [h1.1, e.out], rfl, below_step Bw.out hb⟩

theorem toldHeatOfRod_any {n b0 o0 k0 b1 o1 k1 b2 o2 k2 b3 o3 k3 : Nat} (r : RL) (k q : Nat) (w : World) (A : Cells w q [.slice (some ⟨b0, o0, none⟩) n k0, .slice (some ⟨b1, o1, none⟩) n k1, .slice (some ⟨b2, o2, none⟩) n k2, .slice (some ⟨b3, o3, none⟩) n k3]) (h : Lay w n b0 o0 k0 b1 o1 k1 b2 o2 k2 b3 o3 k3 r) (hq : n ≤ 48) (hk : k < n) :
    Calls Try.prog 108 #[.int .i64 k, .pointer (some ⟨q, 0, none⟩)] w (FlB (tQ r k) w) := by
  have z3 := h.T k hk
  have c0 := A.at 0 rfl
  have c1 := A.at 1 rfl
  have c2 := A.at 2 rfl
  have c3 := A.at 3 rfl
  have e : Hid (tQ r k = fop .mul .f32 (tS r k) (cn .f32 (r.T.getD k 0))) := Lib.hid rfl
  have ST := Lib.hid (fun w1 (hb : Ext w w1) => storeOf_any r k w1 (h.below hb) hq hk)
  clear h A
  generalize r.T.getD k 0 = x at *
  have hi : (0 : Int) ≤ (k : Int) := by omega
  have hi' : (k : Int) < (n : Int) := by omega
  have FACT := Lib.hid (fun w1 (hw : Ext w w1) => And.intro (hw.cell c0) (And.intro (hw.cell c1) (And.intro (hw.cell c2) (And.intro (hw.cell c3) (hw.cell z3)))))
  go_enter Try.func108, Try.ntmps108
  go_wp2
  refine wp_region_looseC (Ext _) (fun f _ v => f = 60 → ∃ x, cn .f32 x = tS r k ∧ v = .float .f32 x) (Ext.start _) (by kernel_rfl) (by kernel_rfl) ?_
  (refine wpLoose_valK rfl ?_ (fun w1 hw1 => ?_) (fun K hK => ?_); rotate_left; (focus (have hF := FACT.out w1 hw1; go_simp; first | done | rfl)); go_simp; refine hK _ ?_; clear hK K)
  (refine wpLoose_valK rfl ?_ (fun w1 hw1 => ?_) (fun K hK => ?_); rotate_left; (focus (have hF := FACT.out w1 hw1; go_simp; first | done | rfl)); go_simp; refine hK _ ?_; clear hK K)
  refine wpLoose_callS rfl 60 #[.agg #[.slice (some ⟨b0, o0, none⟩) n k0, .slice (some ⟨b1, o1, none⟩) n k1, .slice (some ⟨b2, o2, none⟩) n k2, .slice (some ⟨b3, o3, none⟩) n k3], .int .i64 k] (fun w1 => ?_) (fun w1 hw1 => ?_) (fun v hv => ?_)
  · go_simp
  · refine (ST.out w1 hw1).mono ?_
    rintro e w2 ⟨x, hx, rfl, hb⟩
    exact ⟨_, rfl, fun _ => ⟨x, hx, rfl⟩, hb⟩
  obtain ⟨s, hs, rfl⟩ := hv rfl
  have S := Lib.hid hs
  clear hv hs
  repeat (first | (refine wpLoose_farithB rfl _ _ _ _ _ rfl rfl _ _ _ rfl rfl ?_; intro _ _) | (refine wpLoose_valK rfl ?_ (fun w1 hw1 => ?_) (fun K hK => ?_); rotate_left; (focus (have hF := FACT.out w1 hw1; go_simp; first | done | rfl)); go_simp; refine hK _ ?_; clear hK K))
  refine wpLoose_nil ?_; intro w1 hb
  go_wp2
  go_ret
  rename_i h1
  exact ⟨_, by rw [h1.1, S.out, e.out], rfl, hb⟩

theorem toldHinderOf_any {n b0 o0 k0 b1 o1 k1 b2 o2 k2 b3 o3 k3 : Nat} (r : RL) (k q : Nat) (w : World) (A : Cells w q [.slice (some ⟨b0, o0, none⟩) n k0, .slice (some ⟨b1, o1, none⟩) n k1, .slice (some ⟨b2, o2, none⟩) n k2, .slice (some ⟨b3, o3, none⟩) n k3]) (h : Lay w n b0 o0 k0 b1 o1 k1 b2 o2 k2 b3 o3 k3 r) (hq : n ≤ 48) (hk : k < n) :
    Calls Try.prog 110 #[.int .i64 k, .pointer (some ⟨q, 0, none⟩)] w (FlB (tN r k) w) := by
  have z0 := h.W k hk
  have z1 := h.E k hk
  have c0 := A.at 0 rfl
  have c1 := A.at 1 rfl
  have e : Hid (tN r k = fop .quo .f32 (cn .f32 (r.W.getD k 0)) (cn .f32 (r.E.getD k 0))) := Lib.hid rfl
  clear h A
  generalize r.W.getD k 0 = x at *
  generalize r.E.getD k 0 = y at *
  have hi : (0 : Int) ≤ (k : Int) := by omega
  have hi' : (k : Int) < (n : Int) := by omega
  go_enter Try.func110, Try.ntmps110
  go_wp2
  refine wp_region_loose (fun _ _ _ => True) (by kernel_rfl) (by kernel_rfl) ?_
  repeat (first | (refine wpLoose_farith rfl _ _ _ _ _ rfl rfl _ _ _ rfl rfl ?_; intro _ _) | (refine wpLoose_valK rfl ?_ (fun w1 hw1 => ?_) (fun K hK => ?_); rotate_left; (focus (obtain ⟨nq, rfl⟩ := hw1; go_simp; first | done | rfl)); go_simp; refine hK _ ?_; clear hK K))
  (refine wpLoose_nil ?_; rintro _ ⟨nq, rfl⟩)
  go_wp2
  go_ret
  rename_i h1
  exact ⟨_, by rw [h1.1, e.out], rfl, below_drewN (Below.refl _ _) _⟩

theorem toldMeanOfRod_any {n b0 o0 k0 b1 o1 k1 b2 o2 k2 b3 o3 k3 : Nat} (r : RL) (k q : Nat) (w : World) (A : Cells w q [.slice (some ⟨b0, o0, none⟩) n k0, .slice (some ⟨b1, o1, none⟩) n k1, .slice (some ⟨b2, o2, none⟩) n k2, .slice (some ⟨b3, o3, none⟩) n k3]) (h : Lay w n b0 o0 k0 b1 o1 k1 b2 o2 k2 b3 o3 k3 r) (hq : n ≤ 48) (hk : k < n) :
    Calls Try.prog 95 #[.int .i64 k, .pointer (some ⟨q, 0, none⟩)] w (FlB (tS r k) w) := by
  have c0 := A.at 0 rfl
  have c1 := A.at 1 rfl
  have c2 := A.at 2 rfl
  have c3 := A.at 3 rfl
  have H := Lib.hid h
  clear h A
  go_enter Try.func95, Try.ntmps95
  go_wp2_with (go_at_call 60; refine (storeOf_any r k _ H.out hq hk).mono ?_; rintro e w' ⟨x, hx, rfl, hb⟩; have X := Lib.hid (And.intro hx hb); clear hx hb)
  go_ret
  exact ⟨_, X.out.1, rfl, X.out.2⟩

theorem sumHeatOfRod_any {n b0 o0 k0 b1 o1 k1 b2 o2 k2 b3 o3 k3 : Nat} (r : RL) (q : Nat) (w : World) (A : Cells w q [.slice (some ⟨b0, o0, none⟩) n k0, .slice (some ⟨b1, o1, none⟩) n k1, .slice (some ⟨b2, o2, none⟩) n k2, .slice (some ⟨b3, o3, none⟩) n k3]) (h : Lay w n b0 o0 k0 b1 o1 k1 b2 o2 k2 b3 o3 k3 r) (hq : n ≤ 48) :
    Calls Try.prog 94 #[.agg #[.slice (some ⟨b0, o0, none⟩) n k0, .slice (some ⟨b1, o1, none⟩) n k1, .slice (some ⟨b2, o2, none⟩) n k2, .slice (some ⟨b3, o3, none⟩) n k3], .func (.func 108) #[] #[.pointer (some ⟨q, 0, none⟩)]] w (FlB (sumT (tQ r) n) w) := by
  have TO := Lib.hid (fun k (hk : k < n) w1 (hb : Ext w w1) => toldHeatOfRod_any r k q w1 (A.kept hb) (h.below hb) hq hk)
  have Su := Lib.hid (sumT_succ (tQ r))
  have S0 : Hid (cn .f32 0 = sumT (tQ r) 0) := Lib.hid rfl
  have Bw := Lib.hid (below_al1 w (.cells [Value.slice (some ⟨b0, o0, none⟩) n k0, .slice (some ⟨b1, o1, none⟩) n k1, .slice (some ⟨b2, o2, none⟩) n k2, .slice (some ⟨b3, o3, none⟩) n k3].toArray 25))
  clear A h
  generalize sumT (tQ r) = S at *
  go_enter Try.func94, Try.ntmps94
  go_wp2
  go_loopw [5, 6, 10] (fun s _ i wr => ∃ k x : Nat, k ≤ n ∧ i = .int .i64 k ∧ s = .float .f32 x ∧ Hid (cn .f32 x = S k) ∧ Hid (Below w.heap.size w wr)) (fun _ _ i _ => n - (intOf i).toNat)
  case atStart => exact ⟨0, 0, Nat.zero_le _, rfl, rfl, S0, Bw⟩
  case round =>
    obtain ⟨k, x, hk, rfl, rfl, hx, hB⟩ := hrel
    by_cases hlt : k < n
    · have TOk := Lib.hid (TO.out k hlt)
      go_wp2_with (first | (refine wpList_farith rfl _ _ _ _ _ rfl rfl _ _ _ rfl rfl ?_; intro _ _ _) | (go_at_call 108; refine (TOk.out _ hB.out).mono ?_; rintro e w' ⟨y, hy, rfl, hb⟩; have Y := Lib.hid hy; have Bn := Lib.hid (below_step hB.out hb); clear hy hb))
      rename_i h1
      go_roundw
      case rel => exact ⟨k + 1, _, by omega, by go_num, rfl, Lib.hid (by rw [h1.1, hx.out, Y.out, Su.out]), Lib.hid (below_drewN Bn.out _)⟩
      case measure => simp [intOf]; omega
    · have e := Lib.hid (show k = n by omega)
      go_wp2
      go_ret
      have := e.out
      subst this
      exact ⟨_, hx.out, rfl, hB.out⟩

theorem sumHinderOf_any {n b0 o0 k0 b1 o1 k1 b2 o2 k2 b3 o3 k3 : Nat} (r : RL) (q : Nat) (w : World) (A : Cells w q [.slice (some ⟨b0, o0, none⟩) n k0, .slice (some ⟨b1, o1, none⟩) n k1, .slice (some ⟨b2, o2, none⟩) n k2, .slice (some ⟨b3, o3, none⟩) n k3]) (h : Lay w n b0 o0 k0 b1 o1 k1 b2 o2 k2 b3 o3 k3 r) (hq : n ≤ 48) :
    Calls Try.prog 94 #[.agg #[.slice (some ⟨b0, o0, none⟩) n k0, .slice (some ⟨b1, o1, none⟩) n k1, .slice (some ⟨b2, o2, none⟩) n k2, .slice (some ⟨b3, o3, none⟩) n k3], .func (.func 110) #[] #[.pointer (some ⟨q, 0, none⟩)]] w (FlB (sumT (tN r) n) w) := by
  have TO := Lib.hid (fun k (hk : k < n) w1 (hb : Ext w w1) => toldHinderOf_any r k q w1 (A.kept hb) (h.below hb) hq hk)
  have Su := Lib.hid (sumT_succ (tN r))
  have S0 : Hid (cn .f32 0 = sumT (tN r) 0) := Lib.hid rfl
  have Bw := Lib.hid (below_al1 w (.cells [Value.slice (some ⟨b0, o0, none⟩) n k0, .slice (some ⟨b1, o1, none⟩) n k1, .slice (some ⟨b2, o2, none⟩) n k2, .slice (some ⟨b3, o3, none⟩) n k3].toArray 25))
  clear A h
  generalize sumT (tN r) = S at *
  go_enter Try.func94, Try.ntmps94
  go_wp2
  go_loopw [5, 6, 10] (fun s _ i wr => ∃ k x : Nat, k ≤ n ∧ i = .int .i64 k ∧ s = .float .f32 x ∧ Hid (cn .f32 x = S k) ∧ Hid (Below w.heap.size w wr)) (fun _ _ i _ => n - (intOf i).toNat)
  case atStart => exact ⟨0, 0, Nat.zero_le _, rfl, rfl, S0, Bw⟩
  case round =>
    obtain ⟨k, x, hk, rfl, rfl, hx, hB⟩ := hrel
    by_cases hlt : k < n
    · have TOk := Lib.hid (TO.out k hlt)
      go_wp2_with (first | (refine wpList_farith rfl _ _ _ _ _ rfl rfl _ _ _ rfl rfl ?_; intro _ _ _) | (go_at_call 110; refine (TOk.out _ hB.out).mono ?_; rintro e w' ⟨y, hy, rfl, hb⟩; have Y := Lib.hid hy; have Bn := Lib.hid (below_step hB.out hb); clear hy hb))
      rename_i h1
      go_roundw
      case rel => exact ⟨k + 1, _, by omega, by go_num, rfl, Lib.hid (by rw [h1.1, hx.out, Y.out, Su.out]), Lib.hid (below_drewN Bn.out _)⟩
      case measure => simp [intOf]; omega
    · have e := Lib.hid (show k = n by omega)
      go_wp2
      go_ret
      have := e.out
      subst this
      exact ⟨_, hx.out, rfl, hB.out⟩

theorem sumMeanOfRod_any {n b0 o0 k0 b1 o1 k1 b2 o2 k2 b3 o3 k3 : Nat} (r : RL) (q : Nat) (w : World) (A : Cells w q [.slice (some ⟨b0, o0, none⟩) n k0, .slice (some ⟨b1, o1, none⟩) n k1, .slice (some ⟨b2, o2, none⟩) n k2, .slice (some ⟨b3, o3, none⟩) n k3]) (h : Lay w n b0 o0 k0 b1 o1 k1 b2 o2 k2 b3 o3 k3 r) (hq : n ≤ 48) :
    Calls Try.prog 94 #[.agg #[.slice (some ⟨b0, o0, none⟩) n k0, .slice (some ⟨b1, o1, none⟩) n k1, .slice (some ⟨b2, o2, none⟩) n k2, .slice (some ⟨b3, o3, none⟩) n k3], .func (.func 95) #[] #[.pointer (some ⟨q, 0, none⟩)]] w (FlB (sumT (tS r) n) w) := by
  have TO := Lib.hid (fun k (hk : k < n) w1 (hb : Ext w w1) => toldMeanOfRod_any r k q w1 (A.kept hb) (h.below hb) hq hk)
  have Su := Lib.hid (sumT_succ (tS r))
  have S0 : Hid (cn .f32 0 = sumT (tS r) 0) := Lib.hid rfl
  have Bw := Lib.hid (below_al1 w (.cells [Value.slice (some ⟨b0, o0, none⟩) n k0, .slice (some ⟨b1, o1, none⟩) n k1, .slice (some ⟨b2, o2, none⟩) n k2, .slice (some ⟨b3, o3, none⟩) n k3].toArray 25))
  clear A h
  generalize sumT (tS r) = S at *
  go_enter Try.func94, Try.ntmps94
  go_wp2
  go_loopw [5, 6, 10] (fun s _ i wr => ∃ k x : Nat, k ≤ n ∧ i = .int .i64 k ∧ s = .float .f32 x ∧ Hid (cn .f32 x = S k) ∧ Hid (Below w.heap.size w wr)) (fun _ _ i _ => n - (intOf i).toNat)
  case atStart => exact ⟨0, 0, Nat.zero_le _, rfl, rfl, S0, Bw⟩
  case round =>
    obtain ⟨k, x, hk, rfl, rfl, hx, hB⟩ := hrel
    by_cases hlt : k < n
    · have TOk := Lib.hid (TO.out k hlt)
      go_wp2_with (first | (refine wpList_farith rfl _ _ _ _ _ rfl rfl _ _ _ rfl rfl ?_; intro _ _ _) | (go_at_call 95; refine (TOk.out _ hB.out).mono ?_; rintro e w' ⟨y, hy, rfl, hb⟩; have Y := Lib.hid hy; have Bn := Lib.hid (below_step hB.out hb); clear hy hb))
      rename_i h1
      go_roundw
      case rel => exact ⟨k + 1, _, by omega, by go_num, rfl, Lib.hid (by rw [h1.1, hx.out, Y.out, Su.out]), Lib.hid (below_drewN Bn.out _)⟩
      case measure => simp [intOf]; omega
    · have e := Lib.hid (show k = n by omega)
      go_wp2
      go_ret
      have := e.out
      subst this
      exact ⟨_, hx.out, rfl, hB.out⟩

end Go.Proofs.Ytkbdidpodcclfaa

/- Sums over the cells of a rod, as the specification tells. -/
namespace Go.Proofs.Ytkbdidpodcclfaa
open Go.RowKit
set_option linter.unusedVariables false

theorem specHeat_any {n b0 o0 k0 b1 o1 k1 b2 o2 k2 b3 o3 k3 : Nat} (r : RL) (p : Nat) (w : World) (A : Cells w p [.slice (some ⟨b0, o0, none⟩) n k0, .slice (some ⟨b1, o1, none⟩) n k1, .slice (some ⟨b2, o2, none⟩) n k2, .slice (some ⟨b3, o3, none⟩) n k3]) (h : Lay w n b0 o0 k0 b1 o1 k1 b2 o2 k2 b3 o3 k3 r) (hq : n ≤ 48) :
    Calls Try.prog 107 #[.pointer (some ⟨p, 0, none⟩)] w (FlD (sumT (tQ r) n) w) := by
  have Z := Lib.hid h
  have Su := Lib.hid (sumT_succ (tQ r))
  have S0 : Hid (cn .f32 0 = sumT (tQ r) 0) := Lib.hid rfl
  have c0 := A.at 0 rfl
  have c2 := A.at 2 rfl
  have c3 := A.at 3 rfl
  clear A
  clear h
  have TF : Hid (∀ k, tQ r k = fop .mul .f32 (fop .mul .f32 (cn .f32 (r.W.getD k 0)) (cn .f32 (r.H.getD k 0))) (cn .f32 (r.T.getD k 0))) := Lib.hid (fun k => rfl)
  generalize sumT (tQ r) = S at *
  generalize tQ r = T at *
  have G := Lib.hid hq
  clear hq
  go_enter Try.func107, Try.ntmps107
  go_wp2
  go_loopw [3, 4] (fun s i wr => ∃ k x m : Nat, k ≤ n ∧ i = .int .i64 k ∧ s = .float .f32 x ∧ Hid (cn .f32 x = S k) ∧ wr = w.drewN m) (fun _ i _ => n - (intOf i).toNat)
  case atStart => exact ⟨0, 0, 0, Nat.zero_le _, rfl, rfl, S0, rfl⟩
  case round =>
    obtain ⟨k, x, m, hk, rfl, rfl, hx, rfl⟩ := hrel
    have hG := G.out
    by_cases hlt : k < n
    · have TFk := Lib.hid (TF.out k)
      have zW := Z.out.W k hlt
      have zH := Z.out.H k hlt
      have zT := Z.out.T k hlt
      generalize r.W.getD k 0 = yW at *
      generalize r.H.getD k 0 = yH at *
      generalize r.T.getD k 0 = yT at *
      have hi : (0 : Int) ≤ (k : Int) := by omega
      have hi' : (k : Int) < (n : Int) := by omega
      go_wp2
      refine wp_region_loose (fun _ _ _ => True) (by kernel_rfl) (by kernel_rfl) ?_
      repeat (first | (refine wpLoose_farith rfl _ _ _ _ _ rfl rfl _ _ _ rfl rfl ?_; intro _ _) | (refine wpLoose_valK rfl ?_ (fun w1 hw1 => ?_) (fun K hK => ?_); rotate_left; (focus (obtain ⟨nq, rfl⟩ := hw1; go_simp; first | done | rfl)); go_simp; refine hK _ ?_; clear hK K))
      (refine wpLoose_nil ?_; rintro _ ⟨nq, rfl⟩)
      go_wp2
      rename_i r1 h1 r2 h2 r3 h3
      go_roundw
      case rel => exact ⟨k + 1, _, _, by omega, by go_num, rfl, Lib.hid (by rw [h3.1, hx.out, h2.1, h1.1, Su.out, TFk.out]), rfl⟩
      case measure => simp [intOf]; omega
    · have e := Lib.hid (show k = n by omega)
      go_wp2
      go_ret
      have := e.out
      subst this
      exact ⟨_, hx.out, rfl, _, rfl⟩

theorem specHin_any {n b0 o0 k0 b1 o1 k1 b2 o2 k2 b3 o3 k3 : Nat} (r : RL) (p : Nat) (w : World) (A : Cells w p [.slice (some ⟨b0, o0, none⟩) n k0, .slice (some ⟨b1, o1, none⟩) n k1, .slice (some ⟨b2, o2, none⟩) n k2, .slice (some ⟨b3, o3, none⟩) n k3]) (h : Lay w n b0 o0 k0 b1 o1 k1 b2 o2 k2 b3 o3 k3 r) (hq : n ≤ 48) :
    Calls Try.prog 91 #[.pointer (some ⟨p, 0, none⟩)] w (FlD (sumT (tN r) n) w) := by
  have Z := Lib.hid h
  have Su := Lib.hid (sumT_succ (tN r))
  have S0 : Hid (cn .f32 0 = sumT (tN r) 0) := Lib.hid rfl
  have c0 := A.at 0 rfl
  have c1 := A.at 1 rfl
  clear A
  clear h
  have TF : Hid (∀ k, tN r k = fop .quo .f32 (cn .f32 (r.W.getD k 0)) (cn .f32 (r.E.getD k 0))) := Lib.hid (fun k => rfl)
  generalize sumT (tN r) = S at *
  generalize tN r = T at *
  have G := Lib.hid hq
  clear hq
  go_enter Try.func91, Try.ntmps91
  go_wp2
  go_loopw [3, 4] (fun s i wr => ∃ k x m : Nat, k ≤ n ∧ i = .int .i64 k ∧ s = .float .f32 x ∧ Hid (cn .f32 x = S k) ∧ wr = w.drewN m) (fun _ i _ => n - (intOf i).toNat)
  case atStart => exact ⟨0, 0, 0, Nat.zero_le _, rfl, rfl, S0, rfl⟩
  case round =>
    obtain ⟨k, x, m, hk, rfl, rfl, hx, rfl⟩ := hrel
    have hG := G.out
    by_cases hlt : k < n
    · have TFk := Lib.hid (TF.out k)
      have zW := Z.out.W k hlt
      have zE := Z.out.E k hlt
      generalize r.W.getD k 0 = yW at *
      generalize r.E.getD k 0 = yE at *
      have hi : (0 : Int) ≤ (k : Int) := by omega
      have hi' : (k : Int) < (n : Int) := by omega
      go_wp2
      refine wp_region_loose (fun _ _ _ => True) (by kernel_rfl) (by kernel_rfl) ?_
      repeat (first | (refine wpLoose_farith rfl _ _ _ _ _ rfl rfl _ _ _ rfl rfl ?_; intro _ _) | (refine wpLoose_valK rfl ?_ (fun w1 hw1 => ?_) (fun K hK => ?_); rotate_left; (focus (obtain ⟨nq, rfl⟩ := hw1; go_simp; first | done | rfl)); go_simp; refine hK _ ?_; clear hK K))
      (refine wpLoose_nil ?_; rintro _ ⟨nq, rfl⟩)
      go_wp2
      rename_i r1 h1 r2 h2
      go_roundw
      case rel => exact ⟨k + 1, _, _, by omega, by go_num, rfl, Lib.hid (by rw [h2.1, hx.out, h1.1, Su.out, TFk.out]), rfl⟩
      case measure => simp [intOf]; omega
    · have e := Lib.hid (show k = n by omega)
      go_wp2
      go_ret
      have := e.out
      subst this
      exact ⟨_, hx.out, rfl, _, rfl⟩

end Go.Proofs.Ytkbdidpodcclfaa

/- How long a rod is, its heat, how much it hinders heat: what the specification and the program hand back. -/
namespace Go.Proofs.Ytkbdidpodcclfaa
open Go.RowKit
set_option linter.unusedVariables false

def gS (f : RL → Nat → Nat) (r : RL) : Nat := if vRod r then ifF (sumT (f r) r.W.length) else 0
def gB (f : RL → Nat → Nat) (r : RL) : Bool := vRod r && fin .f32 (sumT (f r) r.W.length)
theorem giv_no {f : RL → Nat → Nat} {r : RL} {w w' : World} (hv : vRod r = false) (hb : Below w.heap.size w w') : GivB (gS f r) (gB f r) w (.returned (.tuple #[.float .f32 0, .bool false])) w' :=
  ⟨0, by simp [gS, hv]; rfl, by simp [gB, hv], hb⟩
theorem giv_yes {f : RL → Nat → Nat} {r : RL} {x : Nat} {w w' : World} (hv : vRod r = true) (hx : cn .f32 x = sumT (f r) r.W.length) (hb : Below w.heap.size w w') : GivB (gS f r) (gB f r) w (.returned (.tuple #[.float .f32 (ifF x), .bool (fin .f32 x)])) w' := by
  have := GivB.num (w := w) hx hb
  simpa [gS, gB, hv] using this

theorem specHeatOfRod_any (a b c d : Value) (r : RL) (w : World) (h : RRow w a b c d r) : Calls Try.prog 88 #[.agg #[a, b, c, d]] w (GivB (gS tQ r) (gB tQ r) w) := by
  have IS := Lib.hid (specIs_any a b c d r _ _ (Cells.made w [a, b, c, d] 25) (h.below (below_al1 _ _)))
  cases hv : vRod r
  · rw [hv] at IS
    clear h
    go_enter Try.func88, Try.ntmps88
    go_wp2_with (go_at_call 44; refine IS.out.mono ?_; rintro e w' ⟨rfl, n, rfl⟩)
    go_ret2
    exact giv_no hv (below_drewN (below_al1 _ _) _)
  · rw [hv] at IS
    obtain ⟨b0, o0, k0, b1, o1, k1, b2, o2, k2, b3, o3, k3, rfl, rfl, rfl, rfl, hL⟩ := h.lay (Len.ofV hv)
    have G := Lib.hid (Len.ofV hv).q
    have E1 : Hid (∀ {x : Nat} {w' : World}, cn .f32 x = sumT (tQ r) r.W.length → Below w.heap.size w w' → GivB (gS tQ r) (gB tQ r) w (.returned (.tuple #[.float .f32 (ifF x), .bool (fin .f32 x)])) w') := Lib.hid (fun hx hb => giv_yes hv hx hb)
    clear h
    have LY := Lib.hid hL
    clear hL
    generalize r.W.length = n at *
    generalize gS tQ r = GS at *
    generalize gB tQ r = GB at *
    go_enter Try.func88, Try.ntmps88
    go_wp2_with (first | (go_at_call 44; refine IS.out.mono ?_; rintro e w' ⟨rfl, n1, rfl⟩) | (go_at_call 107; refine (specHeat_any r _ _ (Cells.drewN (Cells.made w [.slice (some ⟨b0, o0, none⟩) n k0, .slice (some ⟨b1, o1, none⟩) n k1, .slice (some ⟨b2, o2, none⟩) n k2, .slice (some ⟨b3, o3, none⟩) n k3] 25)) (LY.out.below (below_drewN (below_al1 _ _) _)) G.out).mono ?_; rintro e w' ⟨x, hx, rfl, n2, rfl⟩; have X := Lib.hid hx; clear hx) | (go_at_call 89; refine (specNum_any _ _).mono ?_; rintro e w' ⟨rfl, n3, rfl⟩))
    go_ret2
    exact E1.out X.out (by first | exact below_drewN (below_al1 _ _) _ | exact below_drewN (below_drewN (below_al1 _ _) _) _)

set_option maxHeartbeats 400000 in
theorem implHeatOfRod_any (a b c d : Value) (r : RL) (w : World) (h : RRow w a b c d r) : Calls Try.prog 92 #[.agg #[a, b, c, d]] w (GivB (gS tQ r) (gB tQ r) w) := by
  have IV := Lib.hid (implValid_any a b c d r _ (h.below (below_al1 w (.cells [a, b, c, d].toArray 25))))
  cases hv : vRod r
  · rw [hv] at IV
    clear h
    go_enter Try.func92, Try.ntmps92
    go_wp2_with (go_at_call 46; refine IV.out.mono ?_; rintro e w' ⟨rfl, hb⟩; have B1 := Lib.hid hb; clear hb)
    go_ret2
    exact giv_no hv (below_step (below_al1 _ _) B1.out)
  · rw [hv] at IV
    obtain ⟨b0, o0, k0, b1, o1, k1, b2, o2, k2, b3, o3, k3, rfl, rfl, rfl, rfl, hL⟩ := h.lay (Len.ofV hv)
    have G := Lib.hid (Len.ofV hv).q
    have E1 : Hid (∀ {x : Nat} {w' : World}, cn .f32 x = sumT (tQ r) r.W.length → Below w.heap.size w w' → GivB (gS tQ r) (gB tQ r) w (.returned (.tuple #[.float .f32 (ifF x), .bool (fin .f32 x)])) w') := Lib.hid (fun hx hb => giv_yes hv hx hb)
    clear h
    generalize r.W.length = n at *
    generalize gS tQ r = GS at *
    generalize gB tQ r = GB at *
    have LY := Lib.hid (hL.below (below_al1 w (.cells [Value.slice (some ⟨b0, o0, none⟩) n k0, .slice (some ⟨b1, o1, none⟩) n k1, .slice (some ⟨b2, o2, none⟩) n k2, .slice (some ⟨b3, o3, none⟩) n k3].toArray 25)))
    clear hL
    have A := Lib.hid (Cells.made w [.slice (some ⟨b0, o0, none⟩) n k0, .slice (some ⟨b1, o1, none⟩) n k1, .slice (some ⟨b2, o2, none⟩) n k2, .slice (some ⟨b3, o3, none⟩) n k3] 25)
    have Bw := Lib.hid (below_al1 w (.cells [Value.slice (some ⟨b0, o0, none⟩) n k0, .slice (some ⟨b1, o1, none⟩) n k1, .slice (some ⟨b2, o2, none⟩) n k2, .slice (some ⟨b3, o3, none⟩) n k3].toArray 25))
    go_enter Try.func92, Try.ntmps92
    go_wp2_with (first
      | (go_at_call 46; refine IV.out.mono ?_; rintro e w' ⟨rfl, hb⟩; have Bw := Lib.hid (below_step Bw.out hb); have A := Lib.hid (A.out.kept hb); have LY := Lib.hid (LY.out.below hb); have c0 := A.out.at 0 rfl; have c1 := A.out.at 1 rfl; have c2 := A.out.at 2 rfl; have c3 := A.out.at 3 rfl; clear hb)
      | (go_at_call 94; refine (sumHeatOfRod_any r _ _ A.out LY.out G.out).mono ?_; rintro e w' ⟨x, hx, rfl, hb⟩; have X := Lib.hid hx; have Bw := Lib.hid (below_step Bw.out hb); clear hx hb)
      | (go_at_call 93; refine (implNum_any _ _).mono ?_; rintro e w' ⟨rfl, n3, rfl⟩))
    go_ret2
    exact E1.out X.out (below_drewN Bw.out _)

theorem specHinderOf_any (a b c d : Value) (r : RL) (w : World) (h : RRow w a b c d r) : Calls Try.prog 68 #[.agg #[a, b, c, d]] w (GivB (gS tN r) (gB tN r) w) := by
  have IS := Lib.hid (specIs_any a b c d r _ _ (Cells.made w [a, b, c, d] 25) (h.below (below_al1 _ _)))
  cases hv : vRod r
  · rw [hv] at IS
    clear h
    go_enter Try.func68, Try.ntmps68
    go_wp2_with (go_at_call 44; refine IS.out.mono ?_; rintro e w' ⟨rfl, n, rfl⟩)
    go_ret2
    exact giv_no hv (below_drewN (below_al1 _ _) _)
  · rw [hv] at IS
    obtain ⟨b0, o0, k0, b1, o1, k1, b2, o2, k2, b3, o3, k3, rfl, rfl, rfl, rfl, hL⟩ := h.lay (Len.ofV hv)
    have G := Lib.hid (Len.ofV hv).q
    have E1 : Hid (∀ {x : Nat} {w' : World}, cn .f32 x = sumT (tN r) r.W.length → Below w.heap.size w w' → GivB (gS tN r) (gB tN r) w (.returned (.tuple #[.float .f32 (ifF x), .bool (fin .f32 x)])) w') := Lib.hid (fun hx hb => giv_yes hv hx hb)
    clear h
    have LY := Lib.hid hL
    clear hL
    generalize r.W.length = n at *
    generalize gS tN r = GS at *
    generalize gB tN r = GB at *
    go_enter Try.func68, Try.ntmps68
    go_wp2_with (first | (go_at_call 44; refine IS.out.mono ?_; rintro e w' ⟨rfl, n1, rfl⟩) | (go_at_call 91; refine (specHin_any r _ _ (Cells.drewN (Cells.made w [.slice (some ⟨b0, o0, none⟩) n k0, .slice (some ⟨b1, o1, none⟩) n k1, .slice (some ⟨b2, o2, none⟩) n k2, .slice (some ⟨b3, o3, none⟩) n k3] 25)) (LY.out.below (below_drewN (below_al1 _ _) _)) G.out).mono ?_; rintro e w' ⟨x, hx, rfl, n2, rfl⟩; have X := Lib.hid hx; clear hx) | (go_at_call 89; refine (specNum_any _ _).mono ?_; rintro e w' ⟨rfl, n3, rfl⟩))
    go_ret2
    exact E1.out X.out (by first | exact below_drewN (below_al1 _ _) _ | exact below_drewN (below_drewN (below_al1 _ _) _) _)

set_option maxHeartbeats 400000 in
theorem implHinderOf_any (a b c d : Value) (r : RL) (w : World) (h : RRow w a b c d r) : Calls Try.prog 97 #[.agg #[a, b, c, d]] w (GivB (gS tN r) (gB tN r) w) := by
  have IV := Lib.hid (implValid_any a b c d r _ (h.below (below_al1 w (.cells [a, b, c, d].toArray 25))))
  cases hv : vRod r
  · rw [hv] at IV
    clear h
    go_enter Try.func97, Try.ntmps97
    go_wp2_with (go_at_call 46; refine IV.out.mono ?_; rintro e w' ⟨rfl, hb⟩; have B1 := Lib.hid hb; clear hb)
    go_ret2
    exact giv_no hv (below_step (below_al1 _ _) B1.out)
  · rw [hv] at IV
    obtain ⟨b0, o0, k0, b1, o1, k1, b2, o2, k2, b3, o3, k3, rfl, rfl, rfl, rfl, hL⟩ := h.lay (Len.ofV hv)
    have G := Lib.hid (Len.ofV hv).q
    have E1 : Hid (∀ {x : Nat} {w' : World}, cn .f32 x = sumT (tN r) r.W.length → Below w.heap.size w w' → GivB (gS tN r) (gB tN r) w (.returned (.tuple #[.float .f32 (ifF x), .bool (fin .f32 x)])) w') := Lib.hid (fun hx hb => giv_yes hv hx hb)
    clear h
    generalize r.W.length = n at *
    generalize gS tN r = GS at *
    generalize gB tN r = GB at *
    have LY := Lib.hid (hL.below (below_al1 w (.cells [Value.slice (some ⟨b0, o0, none⟩) n k0, .slice (some ⟨b1, o1, none⟩) n k1, .slice (some ⟨b2, o2, none⟩) n k2, .slice (some ⟨b3, o3, none⟩) n k3].toArray 25)))
    clear hL
    have A := Lib.hid (Cells.made w [.slice (some ⟨b0, o0, none⟩) n k0, .slice (some ⟨b1, o1, none⟩) n k1, .slice (some ⟨b2, o2, none⟩) n k2, .slice (some ⟨b3, o3, none⟩) n k3] 25)
    have Bw := Lib.hid (below_al1 w (.cells [Value.slice (some ⟨b0, o0, none⟩) n k0, .slice (some ⟨b1, o1, none⟩) n k1, .slice (some ⟨b2, o2, none⟩) n k2, .slice (some ⟨b3, o3, none⟩) n k3].toArray 25))
    go_enter Try.func97, Try.ntmps97
    go_wp2_with (first
      | (go_at_call 46; refine IV.out.mono ?_; rintro e w' ⟨rfl, hb⟩; have Bw := Lib.hid (below_step Bw.out hb); have A := Lib.hid (A.out.kept hb); have LY := Lib.hid (LY.out.below hb); have c0 := A.out.at 0 rfl; have c1 := A.out.at 1 rfl; have c2 := A.out.at 2 rfl; have c3 := A.out.at 3 rfl; clear hb)
      | (go_at_call 94; refine (sumHinderOf_any r _ _ A.out LY.out G.out).mono ?_; rintro e w' ⟨x, hx, rfl, hb⟩; have X := Lib.hid hx; have Bw := Lib.hid (below_step Bw.out hb); clear hx hb)
      | (go_at_call 93; refine (implNum_any _ _).mono ?_; rintro e w' ⟨rfl, n3, rfl⟩))
    go_ret2
    exact E1.out X.out (below_drewN Bw.out _)

end Go.Proofs.Ytkbdidpodcclfaa

/- How great a number may be: bounds by powers of two, kept through operations; what is small enough is narrowed to a finite number. -/
namespace Go.Proofs.Ytkbdidpodcclfaa

theorem even_cut_le (neg : Bool) (n d : Nat) : Ieee.Toward.even.cut neg n d ≤ n / 2 ^ min d (n.log2 + 2) + 1 := by
  unfold Ieee.Toward.cut
  simp only [Nat.one_shiftLeft]
  have : ∀ b : Bool, b.toNat ≤ 1 := fun b => by cases b <;> decide
  exact Nat.add_le_add_left (this _) _

theorem div_pow_lt (m d : Nat) (hd : d ≤ m.log2 + 1) : m / 2 ^ d < 2 ^ (m.log2 + 1 - d) := by
  rw [Nat.div_lt_iff_lt_mul (Nat.two_pow_pos _), ← Nat.pow_add, show m.log2 + 1 - d + d = m.log2 + 1 by omega]
  exact Nat.lt_log2_self

theorem kept_le (fb : Nat) (neg : Bool) (m : Nat) (e last : Int) (hl : e + (m.log2 : Int) - fb ≤ last) :
    Ieee.Toward.even.cut neg (m <<< (e - last).toNat) (last - e).toNat ≤ 2 ^ (fb + 1) := by
  by_cases h : last ≤ e
  · have h0 : (last - e).toNat = 0 := by omega
    rw [h0, cut_zero, Nat.shiftLeft_eq]
    have h1 : m < 2 ^ (m.log2 + 1) := Nat.lt_log2_self
    have h2 : m * 2 ^ (e - last).toNat < 2 ^ (m.log2 + 1) * 2 ^ (e - last).toNat := Nat.mul_lt_mul_of_pos_right h1 (Nat.two_pow_pos _)
    rw [← Nat.pow_add] at h2
    exact Nat.le_trans (Nat.le_of_lt h2) (Nat.pow_le_pow_right (by decide) (by omega))
  · have h0 : (e - last).toNat = 0 := by omega
    rw [h0, Nat.shiftLeft_zero]
    refine Nat.le_trans (even_cut_le neg m _) ?_
    have hp : 1 ≤ 2 ^ (fb + 1) := Nat.one_le_two_pow
    by_cases hd : (last - e).toNat ≤ m.log2 + 1
    · rw [Nat.min_eq_left (by omega)]
      have h1 := div_pow_lt m _ hd
      have h2 : 2 ^ (m.log2 + 1 - (last - e).toNat) ≤ 2 ^ (fb + 1) := Nat.pow_le_pow_right (by decide) (by omega)
      omega
    · rw [Nat.min_eq_right (by omega)]
      have h1 : m < 2 ^ (m.log2 + 1) := Nat.lt_log2_self
      have h2 : 2 ^ (m.log2 + 1) ≤ 2 ^ (m.log2 + 2) := Nat.pow_le_pow_right (by decide) (by omega)
      rw [Nat.div_eq_of_lt (by omega)]
      omega

theorem nearest_rung (f : Ieee.Format) (neg : Bool) (m : Nat) (e : Int) (hm : m ≠ 0) :
    ∃ r, f.nearest neg m e = f.word neg (min r f.infRung) ∧ r ≤ (max (e + (m.log2 : Int) - f.fractionBits) f.leastPlace - f.leastPlace).toNat * f.binade + 2 * f.binade := by
  unfold Ieee.Format.nearest
  rw [if_neg hm]
  refine ⟨_, rfl, Nat.add_le_add_left ?_ _⟩
  have := kept_le f.fractionBits neg m e (max (e + (m.log2 : Int) - f.fractionBits) f.leastPlace) (by omega)
  rw [show 2 * f.binade = 2 ^ (f.fractionBits + 1) from by unfold Ieee.Format.binade; rw [Nat.pow_succ, Nat.mul_comm]]
  exact this

/-- less than 2 to the power of K -/
def Lt (K : Int) (m : Nat) (e : Int) : Prop := m = 0 ∨ (m.log2 : Int) + e < K
def Bd (K : Int) (b : Nat) : Prop := ∃ s m e, Ieee.double.read b = .number s m e ∧ Lt K m e

theorem word_mod (f : Ieee.Format) (neg : Bool) (r : Nat) (h : r < f.signWeight) : f.word neg r % f.signWeight = r := by
  unfold Ieee.Format.word
  split
  · rw [Nat.add_mod_left, Nat.mod_eq_of_lt h]
  · exact Nat.mod_eq_of_lt h

theorem Bd.mono {K L : Int} {b : Nat} (h : Bd K b) (hl : K ≤ L) : Bd L b := by
  obtain ⟨s, m, e, hr, hm⟩ := h
  refine ⟨s, m, e, hr, ?_⟩
  rcases hm with hm | hm
  · exact .inl hm
  · exact .inr (by omega)

theorem rung_num (T r : Nat) (h : r ≤ T * 4503599627370496 + 2 * 4503599627370496) (hT : T ≤ 2040) : r < 9218868437227405312 ∧ r / 4503599627370496 ≤ T + 2 := by
  constructor
  · omega
  · omega

theorem double_mg (r : Nat) : mg Ieee.double r < 9007199254740992 := by
  unfold mg
  rw [double_binade]
  split <;> omega

theorem nearest_Bd (K : Int) (s : Bool) (m : Nat) (e : Int) (h : Lt K m e) (h0 : -1000 ≤ K) (h1 : K ≤ 1000) : Bd (K + 1) (Ieee.double.nearest s m e) := by
  by_cases hm : m = 0
  · subst hm
    refine ⟨s, 0, Ieee.double.leastPlace, ?_, .inl rfl⟩
    unfold Ieee.Format.nearest
    rw [if_pos rfl]
    cases s <;> rfl
  · obtain ⟨r, hr, hle⟩ := nearest_rung Ieee.double s m e hm
    have hlt : (m.log2 : Int) + e < K := by rcases h with h | h; exact absurd h hm; exact h
    rw [double_binade, double_least, double_fraction] at hle
    have hT : (max (e + (m.log2 : Int) - 52) (-1074) - -1074).toNat ≤ 2040 := by omega
    have hTK : ((max (e + (m.log2 : Int) - 52) (-1074) - -1074).toNat : Int) - 1074 ≤ max (K - 53) (-1074) := by omega
    generalize (max (e + (m.log2 : Int) - 52) (-1074) - -1074).toNat = T at *
    obtain ⟨g1, g2⟩ := rung_num T r hle hT
    rw [double_inf, Nat.min_eq_left (by omega)] at hr
    have hsw : Ieee.double.signWeight = 9223372036854775808 := double_sw
    have hmod : (Ieee.double.word s r) % Ieee.double.signWeight = r := word_mod _ _ _ (by rw [hsw]; omega)
    have hread := read_fin Ieee.double (Ieee.double.word s r) (by rw [hmod, double_inf]; exact g1)
    rw [hmod] at hread
    rw [hr]
    refine ⟨_, _, _, hread, ?_⟩
    by_cases hz : mg Ieee.double r = 0
    · exact .inl hz
    · refine .inr ?_
      have hl : (mg Ieee.double r).log2 < 53 := (Nat.log2_lt hz).2 (double_mg r)
      have hex : ex Ieee.double r = r / 4503599627370496 - 1 := by unfold ex; rw [double_binade]
      rw [double_least, hex]
      generalize r / 4503599627370496 = q at *
      generalize (mg Ieee.double r).log2 = l at *
      omega

theorem single_binade : Ieee.single.binade = 8388608 := by decide
theorem single_inf' : Ieee.single.infRung = 2139095040 := by decide
theorem single_least : Ieee.single.leastPlace = -149 := by decide
theorem single_fraction : (Ieee.single.fractionBits : Int) = 23 := by decide

theorem single_small (s : Bool) (m : Nat) (e : Int) (h : Lt 127 m e) : (Ieee.single.read (Ieee.single.write (.number s m e))).isInfinity = false := by
  show (Ieee.single.read (Ieee.single.nearest s m e)).isInfinity = false
  by_cases hm : m = 0
  · subst hm
    exact read_word_fin Ieee.single s 0 (by decide)
  · obtain ⟨r, hr, hle⟩ := nearest_rung Ieee.single s m e hm
    have hlt : (m.log2 : Int) + e < 127 := by rcases h with h | h; exact absurd h hm; exact h
    rw [single_binade, single_least, single_fraction] at hle
    have hT : (max (e + (m.log2 : Int) - 23) (-149) - -149).toNat ≤ 252 := by omega
    generalize (max (e + (m.log2 : Int) - 23) (-149) - -149).toNat = T at *
    rw [hr, single_inf']
    exact read_word_fin _ _ _ (by rw [single_inf']; omega)

/-- what is small enough is not too great to be narrowed -/
theorem ovf_small {b : Nat} (h : Bd 127 b) : ovf b = false := by
  obtain ⟨s, m, e, hr, hm⟩ := h
  unfold ovf floatToFloatBits
  rw [if_neg (by decide)]
  rw [show FloatKind.f64.decode b = .number s m e from hr]
  simp only
  rw [if_neg (by rw [show FloatKind.f32.decode (FloatKind.f32.encode (.number s m e)) = Ieee.single.read (Ieee.single.write (.number s m e)) from rfl, single_small s m e hm]; simp)]
  simp

theorem ovf_nan {b : Nat} (h : nn .f64 b = true) : ovf b = false := by simp [ovf, h]

theorem up_Bd {a r : Nat} (h : UR a r) (hf : fin .f32 a = true) : Bd 129 r := by
  obtain ⟨s, m, e, hr⟩ := fin_number hf
  have hn : nn .f32 a = false := by
    cases hn : nn .f32 a
    · rfl
    · rw [fin_nan hn] at hf; cases hf
  obtain ⟨hm, h0, h1⟩ := read_single_bounds (show Ieee.single.read a = _ from hr)
  obtain ⟨u, hu⟩ := up_some hn
  have e1 := h.1
  rw [cn_of_num (by rw [nn_up h]; exact hn), cn_of_num hn, cvu, hu] at e1
  change r = u at e1
  subst e1
  unfold floatToFloatBits at hu
  rw [if_neg (by decide), show FloatKind.f32.decode a = .number s m e from hr] at hu
  simp only at hu
  split at hu
  · cases hu
  · cases hu
    refine nearest_Bd 128 s m e ?_ (by omega) (by omega)
    by_cases hz : m = 0
    · exact .inl hz
    · have := (Nat.log2_lt hz).2 hm
      exact .inr (by omega)

/-! Roots. -/
theorem log2_mul_pow (m k : Nat) (h : m ≠ 0) : (m * 2 ^ k).log2 = m.log2 + k := by
  rw [Nat.log2_eq_iff (Nat.mul_ne_zero h (Nat.ne_of_gt (Nat.two_pow_pos _)))]
  have a := Nat.log2_self_le h
  have b := @Nat.lt_log2_self m
  constructor
  · rw [Nat.pow_add]; exact Nat.mul_le_mul_right _ a
  · rw [show m.log2 + k + 1 = m.log2 + 1 + k by omega, Nat.pow_add]; exact Nat.mul_lt_mul_of_pos_right b (Nat.two_pow_pos _)

theorem rootFrom_lt (n : Nat) : ∀ (todo root : Nat), Ieee.Datum.rootFrom n todo root < root + 2 ^ todo
  | 0, root => by simp [Ieee.Datum.rootFrom]
  | todo + 1, root => by
    unfold Ieee.Datum.rootFrom
    have h1 := rootFrom_lt n todo (root + 1 <<< todo)
    have h2 := rootFrom_lt n todo root
    rw [Nat.one_shiftLeft] at h1
    have hp : 2 ^ (todo + 1) = 2 ^ todo + 2 ^ todo := by rw [Nat.pow_succ]; omega
    have hq := Nat.two_pow_pos todo
    simp only [Nat.one_shiftLeft]
    split <;> omega

/-- a root, up to the bits of a not-a-number -/
def fsq (x : Nat) : Nat := (Ieee.double.sqrt x).getD (qn .f64)

theorem sqrt_Bd {x r : Nat} (h : Bd 129 x) (hr : Ieee.double.sqrt x = some r) : Bd 127 r := by
  obtain ⟨s, m, i, hx, hm⟩ := h
  unfold Ieee.Format.sqrt at hr
  rw [hx] at hr
  simp only [Ieee.Datum.root] at hr
  by_cases h0 : m = 0
  · rw [if_pos h0] at hr
    simp only [Option.map_some, Option.some.injEq] at hr
    subst hr
    exact (nearest_Bd 0 s m i (.inl h0) (by omega) (by omega)).mono (by omega)
  · rw [if_neg h0] at hr
    cases s
    · simp only [Bool.false_eq_true, if_false, Option.map_some, Option.some.injEq] at hr
      subst hr
      have hlt : (m.log2 : Int) + i < 129 := by rcases hm with h | h; exact absurd h h0; exact h
      generalize hmo : (2 * (Ieee.double.fractionBits + 2) - m.log2 + ((i - ((2 * (Ieee.double.fractionBits + 2) - m.log2 : Nat) : Int)) % 2).toNat) = more
      have hln : (m <<< more).log2 = m.log2 + more := by rw [Nat.shiftLeft_eq, log2_mul_pow m more h0]
      have hw := rootFrom_lt (m <<< more) ((m <<< more).log2 / 2 + 1) 0
      rw [hln] at hw ⊢
      generalize Ieee.Datum.rootFrom (m <<< more) ((m.log2 + more) / 2 + 1) 0 = whole at *
      refine (nearest_Bd 100 false _ _ ?_ (by omega) (by omega)).mono (by omega)
      by_cases hz : 2 * whole + (whole * whole != m <<< more).toNat = 0
      · exact .inl hz
      · refine .inr ?_
        have hb : (whole * whole != m <<< more).toNat ≤ 1 := by cases (whole * whole != m <<< more) <;> decide
        have hl : (2 * whole + (whole * whole != m <<< more).toNat).log2 < (m.log2 + more) / 2 + 3 := by
          refine (Nat.log2_lt hz).2 ?_
          have : 2 ^ ((m.log2 + more) / 2 + 3) = 2 ^ ((m.log2 + more) / 2 + 1) * 4 := by rw [show (m.log2 + more) / 2 + 3 = (m.log2 + more) / 2 + 1 + 2 by omega, Nat.pow_add]
          omega
        generalize (2 * whole + (whole * whole != m <<< more).toNat).log2 = l at *
        omega
    · simp at hr
end Go.Proofs.Ytkbdidpodcclfaa

/- Halves of 32-bit numbers: what is divided by 2 is what is multiplied by one half. -/
namespace Go.Proofs.Ytkbdidpodcclfaa
open Go

theorem cut_scale (neg : Bool) (n k d : Nat) (hn : n ≠ 0) : Ieee.Toward.even.cut neg (n * 2 ^ k) (d + k) = Ieee.Toward.even.cut neg n d := by
  unfold Ieee.Toward.cut
  have hl : (n * 2 ^ k).log2 = n.log2 + k := log2_mul_pow n k hn
  have hg : 1 <<< min (d + k) ((n * 2 ^ k).log2 + 2) = (1 <<< min d (n.log2 + 2)) * 2 ^ k := by
    rw [hl, Nat.one_shiftLeft, Nat.one_shiftLeft, show min (d + k) (n.log2 + k + 2) = min d (n.log2 + 2) + k by omega, Nat.pow_add]
  simp only [hg]
  generalize (1 <<< min d (n.log2 + 2)) = g
  have hk : 0 < 2 ^ k := Nat.two_pow_pos k
  generalize 2 ^ k = K at *
  rw [Nat.mul_div_mul_right _ _ hk, Nat.mul_mod_mul_right]
  have e1 : (2 * (n % g * K)) = (2 * (n % g)) * K := by rw [Nat.mul_assoc]
  rw [e1]
  have e2 : decide (g * K < 2 * (n % g) * K) = decide (g < 2 * (n % g)) := by
    rw [decide_eq_decide]
    exact Nat.mul_lt_mul_right hk
  have e3 : (g * K == 2 * (n % g) * K) = (g == 2 * (n % g)) := by
    rw [Bool.eq_iff_iff]
    simp only [beq_iff_eq]
    exact ⟨fun h => Nat.eq_of_mul_eq_mul_right hk h, fun h => congrArg (· * K) h⟩
  rw [e2, e3]

theorem nearest_scale (f : Ieee.Format) (neg : Bool) (m k : Nat) (p : Int) (hm : m ≠ 0) : f.nearest neg (m * 2 ^ k) (p - k) = f.nearest neg m p := by
  unfold Ieee.Format.nearest
  have h0 : m * 2 ^ k ≠ 0 := Nat.mul_ne_zero hm (Nat.ne_of_gt (Nat.two_pow_pos k))
  rw [if_neg h0, if_neg hm]
  simp only [log2_mul_pow m k hm]
  have hL : max (p - k + ((m.log2 + k : Nat) : Int) - f.fractionBits) f.leastPlace = max (p + (m.log2 : Int) - f.fractionBits) f.leastPlace := by
    congr 1; omega
  rw [hL]
  generalize max (p + (m.log2 : Int) - f.fractionBits) f.leastPlace = L
  have hc : Ieee.Toward.even.cut neg ((m * 2 ^ k) <<< (p - k - L).toNat) (L - (p - k)).toNat = Ieee.Toward.even.cut neg (m <<< (p - L).toNat) (L - p).toNat := by
    rw [Nat.shiftLeft_eq, Nat.shiftLeft_eq]
    by_cases h1 : L ≤ p - k
    · have e1 : (p - L).toNat = k + (p - k - L).toNat := by omega
      have e2 : (L - (p - k)).toNat = 0 := by omega
      have e3 : (L - p).toNat = 0 := by omega
      rw [e1, e2, e3, Nat.pow_add, Nat.mul_assoc]
    · by_cases h2 : L ≤ p
      · have e1 : (p - k - L).toNat = 0 := by omega
        have e3 : (L - p).toNat = 0 := by omega
        have e4 : 2 ^ k = 2 ^ (p - L).toNat * 2 ^ (L - (p - k)).toNat := by
          rw [← Nat.pow_add]; congr 1; omega
        rw [e1, e3, Nat.pow_zero, Nat.mul_one, e4, ← Nat.mul_assoc]
        have := cut_scale neg (m * 2 ^ (p - L).toNat) (L - (p - k)).toNat 0 (Nat.mul_ne_zero hm (Nat.ne_of_gt (Nat.two_pow_pos _)))
        rw [Nat.zero_add] at this
        exact this
      · have e1 : (p - k - L).toNat = 0 := by omega
        have e2 : (p - L).toNat = 0 := by omega
        have e3 : (L - (p - k)).toNat = (L - p).toNat + k := by omega
        rw [e1, e2, e3, Nat.pow_zero, Nat.mul_one, Nat.mul_one]
        exact cut_scale neg m k _ hm
  rw [hc]

theorem two32_read : Ieee.single.read 1073741824 = .number false 8388608 (-22) := by decide +kernel
theorem half32_read : Ieee.single.read 1056964608 = .number false 8388608 (-24) := by decide +kernel

theorem half_same (x : Nat) : floatBits .quo .f32 x 1073741824 = floatBits .mul .f32 1056964608 x := by
  show Ieee.single.div x 1073741824 = Ieee.single.mul 1056964608 x
  unfold Ieee.Format.div Ieee.Format.mul
  rw [two32_read, half32_read]
  cases h : Ieee.single.read x with
  | nan s t => rfl
  | infinity s => cases s <;> rfl
  | number s m e =>
    obtain ⟨hm, _, _⟩ := read_single_bounds h
    simp only [Ieee.Datum.quotient, Ieee.Datum.product]
    rw [if_neg (by decide)]
    simp only [Option.map_some, Option.some.injEq]
    show Ieee.single.nearest _ _ _ = Ieee.single.nearest _ _ _
    by_cases h0 : m = 0
    · subst h0
      rw [Nat.zero_shiftLeft, Nat.zero_div, Nat.zero_mod, Nat.mul_zero]
      unfold Ieee.Format.nearest
      simp
    · have hl : m.log2 < 24 := (Nat.log2_lt h0).2 hm
      have h23 : Nat.log2 8388608 = 23 := by decide +kernel
      have hf : Ieee.single.fractionBits = 23 := by decide
      rw [h23, hf]
      have e1 : 2 * (m <<< (23 + 2 + 23 - m.log2) / 8388608) + (m <<< (23 + 2 + 23 - m.log2) % 8388608 != 0).toNat = m * 2 ^ (26 - m.log2) := by
        rw [Nat.shiftLeft_eq, show 23 + 2 + 23 - m.log2 = (25 - m.log2) + 23 by omega, Nat.pow_add, ← Nat.mul_assoc, show (8388608 : Nat) = 2 ^ 23 from rfl]
        rw [Nat.mul_div_cancel _ (Nat.two_pow_pos 23), Nat.mul_mod_left, show 26 - m.log2 = (25 - m.log2) + 1 by omega, Nat.pow_succ]
        simp
        rw [Nat.mul_comm 2, Nat.mul_assoc]
      rw [e1]
      have e2 : e - -22 - ((23 + 2 + 23 - m.log2 : Nat) : Int) - 1 = (e - 1) - ((26 - m.log2 : Nat) : Int) := by omega
      have e3 : (8388608 : Nat) * m = m * 2 ^ 23 := by rw [Nat.mul_comm]
      have e4 : (-24 : Int) + e = (e - 1) - ((23 : Nat) : Int) := by omega
      rw [e2, e3, e4, nearest_scale _ _ _ _ _ h0, nearest_scale _ _ _ _ _ h0]
      simp

/-- a half, told as the program tells it, and as the specification does -/
theorem fop_half (x : Nat) : fop .quo .f32 x (cn .f32 1073741824) = fop .mul .f32 (cn .f32 1056964608) x := by
  have e1 : cn .f32 1073741824 = 1073741824 := by decide
  have e2 : cn .f32 1056964608 = 1056964608 := by decide
  unfold fop
  rw [e1, e2, half_same]
end Go.Proofs.Ytkbdidpodcclfaa

/- How much passes between two cells of a rod. -/
namespace Go.Proofs.Ytkbdidpodcclfaa
open Go.RowKit
set_option linter.unusedVariables false

/-- half of what a cell hinders -/
def hN (r : RL) (k : Nat) : Nat := fop .mul .f32 (cn .f32 1056964608) (tN r k)
/-- how much passes between a cell and the next one -/
def bV (r : RL) (k : Nat) : Nat := fop .quo .f32 (cn .f32 1065353216) (fop .add .f32 (hN r k) (hN r (k + 1)))

theorem specHalf_any {n b0 o0 k0 b1 o1 k1 b2 o2 k2 b3 o3 k3 : Nat} (r : RL) (k p : Nat) (w : World) (A : Cells w p [.slice (some ⟨b0, o0, none⟩) n k0, .slice (some ⟨b1, o1, none⟩) n k1, .slice (some ⟨b2, o2, none⟩) n k2, .slice (some ⟨b3, o3, none⟩) n k3]) (h : Lay w n b0 o0 k0 b1 o1 k1 b2 o2 k2 b3 o3 k3 r) (hk : k < n) :
    Calls Try.prog 69 #[.pointer (some ⟨p, 0, none⟩), .int .i64 k] w (FlD (hN r k) w) := by
  have z0 := h.W k hk
  have z1 := h.E k hk
  have c0 := A.at 0 rfl
  have c1 := A.at 1 rfl
  have e : Hid (hN r k = fop .mul .f32 (cn .f32 1056964608) (fop .quo .f32 (cn .f32 (r.W.getD k 0)) (cn .f32 (r.E.getD k 0)))) := Lib.hid rfl
  clear h A
  generalize r.W.getD k 0 = x at *
  generalize r.E.getD k 0 = y at *
  have hi : (0 : Int) ≤ (k : Int) := by omega
  have hi' : (k : Int) < (n : Int) := by omega
  go_enter Try.func69, Try.ntmps69
  go_wp2
  refine wp_region_loose (fun _ _ _ => True) (by kernel_rfl) (by kernel_rfl) ?_
  repeat (first | (refine wpLoose_farith rfl _ _ _ _ _ rfl rfl _ _ _ rfl rfl ?_; intro _ _) | (refine wpLoose_valK rfl ?_ (fun w1 hw1 => ?_) (fun K hK => ?_); rotate_left; (focus (obtain ⟨nq, rfl⟩ := hw1; go_simp; first | done | rfl)); go_simp; refine hK _ ?_; clear hK K))
  (refine wpLoose_nil ?_; rintro _ ⟨nq, rfl⟩)
  go_wp2
  go_ret
  rename_i r1 h1 r2 h2
  exact ⟨_, by rw [h2.1, h1.1, e.out], rfl, _, rfl⟩

theorem implHalf_any {n b0 o0 k0 b1 o1 k1 b2 o2 k2 b3 o3 k3 : Nat} (r : RL) (k : Nat) (w : World) (h : Lay w n b0 o0 k0 b1 o1 k1 b2 o2 k2 b3 o3 k3 r) (hk : k < n) :
    Calls Try.prog 83 #[.agg #[.slice (some ⟨b0, o0, none⟩) n k0, .slice (some ⟨b1, o1, none⟩) n k1, .slice (some ⟨b2, o2, none⟩) n k2, .slice (some ⟨b3, o3, none⟩) n k3], .int .i64 k] w (FlB (hN r k) w) := by
  have z0 := h.W k hk
  have z1 := h.E k hk
  have e : Hid (hN r k = fop .mul .f32 (cn .f32 1056964608) (fop .quo .f32 (cn .f32 (r.W.getD k 0)) (cn .f32 (r.E.getD k 0)))) := Lib.hid rfl
  clear h
  generalize r.W.getD k 0 = x at *
  generalize r.E.getD k 0 = y at *
  have hi : (0 : Int) ≤ (k : Int) := by omega
  have hi' : (k : Int) < (n : Int) := by omega
  have A := Cells.made w [.slice (some ⟨b0, o0, none⟩) n k0, .slice (some ⟨b1, o1, none⟩) n k1, .slice (some ⟨b2, o2, none⟩) n k2, .slice (some ⟨b3, o3, none⟩) n k3] 25
  have Bw := Lib.hid (below_al1 w (.cells [Value.slice (some ⟨b0, o0, none⟩) n k0, .slice (some ⟨b1, o1, none⟩) n k1, .slice (some ⟨b2, o2, none⟩) n k2, .slice (some ⟨b3, o3, none⟩) n k3].toArray 25))
  have FACT := Lib.hid (fun w1 (hw : Ext (w.alloc (.cells [Value.slice (some ⟨b0, o0, none⟩) n k0, .slice (some ⟨b1, o1, none⟩) n k1, .slice (some ⟨b2, o2, none⟩) n k2, .slice (some ⟨b3, o3, none⟩) n k3].toArray 25)) w1) => And.intro (hw.cell (A.at 0 rfl)) (And.intro (hw.cell (A.at 1 rfl)) (And.intro (hw.cell (Ext.cell (below_al1 _ _) z0)) (hw.cell (Ext.cell (below_al1 _ _) z1)))))
  clear A z0 z1
  go_enter Try.func83, Try.ntmps83
  go_wp2
  refine wp_region_looseC (Ext _) (fun _ _ _ => True) (Ext.start _) (by kernel_rfl) (by kernel_rfl) ?_
  repeat (first | (refine wpLoose_farithB rfl _ _ _ _ _ rfl rfl _ _ _ rfl rfl ?_; intro _ _) | (refine wpLoose_valK rfl ?_ (fun w1 hw1 => ?_) (fun K hK => ?_); rotate_left; (focus (have hF := FACT.out w1 hw1; go_simp; first | done | rfl)); go_simp; refine hK _ ?_; clear hK K))
  refine wpLoose_nil ?_; intro w1 hb
  go_wp2
  go_ret
  rename_i r1 h1 r2 h2
  exact ⟨_, by rw [h2.1, fop_half, h1.1, e.out], rfl, below_step Bw.out hb⟩

theorem specOver_any {n b0 o0 k0 b1 o1 k1 b2 o2 k2 b3 o3 k3 : Nat} (r : RL) (k p : Nat) (w : World) (A : Cells w p [.slice (some ⟨b0, o0, none⟩) n k0, .slice (some ⟨b1, o1, none⟩) n k1, .slice (some ⟨b2, o2, none⟩) n k2, .slice (some ⟨b3, o3, none⟩) n k3]) (h : Lay w n b0 o0 k0 b1 o1 k1 b2 o2 k2 b3 o3 k3 r) (hq : n ≤ 48) (hk : k + 1 < n) :
    Calls Try.prog 102 #[.pointer (some ⟨p, 0, none⟩), .int .i64 k] w (FlD (bV r k) w) := by
  have H0 := Lib.hid (fun m => specHalf_any r k p (w.drewN m) A.drewN (h.below (below_drewN (Below.refl _ _) m)) (by omega))
  have H1 := Lib.hid (fun m => specHalf_any r (k + 1) p (w.drewN m) A.drewN (h.below (below_drewN (Below.refl _ _) m)) hk)
  have H0' := Lib.hid (specHalf_any r k p w A h (by omega))
  rw [show (((k + 1 : Nat)) : Int) = (k : Int) + 1 from by omega] at H1
  clear A h
  go_enter Try.func102, Try.ntmps102
  go_wp2_with fail
  refine H0'.out.mono ?_
  rintro _ _ ⟨x, hx, rfl, m1, rfl⟩
  have X := Lib.hid hx
  clear hx
  go_wp2_with fail
  refine (H1.out _).mono ?_
  rintro _ _ ⟨y, hy, rfl, m2, rfl⟩
  have Y := Lib.hid hy
  clear hy
  go_wp2_with (refine wpList_farith rfl _ _ _ _ _ rfl rfl _ _ _ rfl rfl ?_; intro _ _ _)
  go_ret
  rename_i r1 j1 h1 r2 j2 h2
  exact ⟨_, by rw [h2.1, h1.1, X.out, Y.out]; rfl, rfl, _, rfl⟩

theorem implOver_any {n b0 o0 k0 b1 o1 k1 b2 o2 k2 b3 o3 k3 : Nat} (r : RL) (k : Nat) (w : World) (h : Lay w n b0 o0 k0 b1 o1 k1 b2 o2 k2 b3 o3 k3 r) (hq : n ≤ 48) (hk : k + 1 < n) :
    Calls Try.prog 84 #[.agg #[.slice (some ⟨b0, o0, none⟩) n k0, .slice (some ⟨b1, o1, none⟩) n k1, .slice (some ⟨b2, o2, none⟩) n k2, .slice (some ⟨b3, o3, none⟩) n k3], .int .i64 k] w (FlB (bV r k) w) := by
  have A := Cells.made w [.slice (some ⟨b0, o0, none⟩) n k0, .slice (some ⟨b1, o1, none⟩) n k1, .slice (some ⟨b2, o2, none⟩) n k2, .slice (some ⟨b3, o3, none⟩) n k3] 25
  have Bw := Lib.hid (below_al1 w (.cells [Value.slice (some ⟨b0, o0, none⟩) n k0, .slice (some ⟨b1, o1, none⟩) n k1, .slice (some ⟨b2, o2, none⟩) n k2, .slice (some ⟨b3, o3, none⟩) n k3].toArray 25))
  have H0 := Lib.hid (fun w1 (hw : Ext (w.alloc (.cells [Value.slice (some ⟨b0, o0, none⟩) n k0, .slice (some ⟨b1, o1, none⟩) n k1, .slice (some ⟨b2, o2, none⟩) n k2, .slice (some ⟨b3, o3, none⟩) n k3].toArray 25)) w1) => implHalf_any r k w1 (h.below (below_step (below_al1 w (.cells [Value.slice (some ⟨b0, o0, none⟩) n k0, .slice (some ⟨b1, o1, none⟩) n k1, .slice (some ⟨b2, o2, none⟩) n k2, .slice (some ⟨b3, o3, none⟩) n k3].toArray 25)) hw)) (by omega))
  have H1 := Lib.hid (fun w1 (hw : Ext (w.alloc (.cells [Value.slice (some ⟨b0, o0, none⟩) n k0, .slice (some ⟨b1, o1, none⟩) n k1, .slice (some ⟨b2, o2, none⟩) n k2, .slice (some ⟨b3, o3, none⟩) n k3].toArray 25)) w1) => implHalf_any r (k + 1) w1 (h.below (below_step (below_al1 w (.cells [Value.slice (some ⟨b0, o0, none⟩) n k0, .slice (some ⟨b1, o1, none⟩) n k1, .slice (some ⟨b2, o2, none⟩) n k2, .slice (some ⟨b3, o3, none⟩) n k3].toArray 25)) hw)) hk)
  rw [show (((k + 1 : Nat)) : Int) = (k : Int) + 1 from by omega] at H1
  have FACT := Lib.hid (fun w1 (hw : Ext (w.alloc (.cells [Value.slice (some ⟨b0, o0, none⟩) n k0, .slice (some ⟨b1, o1, none⟩) n k1, .slice (some ⟨b2, o2, none⟩) n k2, .slice (some ⟨b3, o3, none⟩) n k3].toArray 25)) w1) => And.intro (hw.cell (A.at 0 rfl)) (And.intro (hw.cell (A.at 1 rfl)) (And.intro (hw.cell (A.at 2 rfl)) (hw.cell (A.at 3 rfl)))))
  have hw : IntKind.i64.wrap ((k : Int) + 1) = (k : Int) + 1 := IntWalk.i64_in _ (by omega)
  clear A h
  go_enter Try.func84, Try.ntmps84
  go_wp2
  refine wp_region_looseC (Ext _) (fun f args v => f = 83 → (args = #[.agg #[.slice (some ⟨b0, o0, none⟩) n k0, .slice (some ⟨b1, o1, none⟩) n k1, .slice (some ⟨b2, o2, none⟩) n k2, .slice (some ⟨b3, o3, none⟩) n k3], .int .i64 k] → ∃ x, cn .f32 x = hN r k ∧ v = .float .f32 x) ∧ (args = #[.agg #[.slice (some ⟨b0, o0, none⟩) n k0, .slice (some ⟨b1, o1, none⟩) n k1, .slice (some ⟨b2, o2, none⟩) n k2, .slice (some ⟨b3, o3, none⟩) n k3], .int .i64 ((k : Int) + 1)] → ∃ x, cn .f32 x = hN r (k + 1) ∧ v = .float .f32 x)) (Ext.start _) (by kernel_rfl) (by kernel_rfl) ?_
  (refine wpLoose_valK rfl ?_ (fun w1 hw1 => ?_) (fun K hK => ?_); rotate_left; (focus (have hF := FACT.out w1 hw1; go_simp; first | done | rfl)); go_simp; refine hK _ ?_; clear hK K)
  (refine wpLoose_valK rfl ?_ (fun w1 hw1 => ?_) (fun K hK => ?_); rotate_left; (focus (have hF := FACT.out w1 hw1; go_simp; first | done | rfl)); go_simp; refine hK _ ?_; clear hK K)
  refine wpLoose_callS rfl 83 #[.agg #[.slice (some ⟨b0, o0, none⟩) n k0, .slice (some ⟨b1, o1, none⟩) n k1, .slice (some ⟨b2, o2, none⟩) n k2, .slice (some ⟨b3, o3, none⟩) n k3], .int .i64 k] (fun w1 => ?_) (fun w1 hw1 => ?_) (fun v hv => ?_)
  · go_simp
  · refine (H0.out w1 hw1).mono ?_
    rintro e w2 ⟨x, hx, rfl, hb⟩
    exact ⟨_, rfl, fun _ => ⟨fun _ => ⟨x, hx, rfl⟩, fun h => absurd h (by simp <;> omega)⟩, hb⟩
  obtain ⟨x, hx, rfl⟩ := (hv rfl).1 rfl
  have X := Lib.hid hx
  clear hv hx
  (refine wpLoose_valK rfl ?_ (fun w1 hw1 => ?_) (fun K hK => ?_); rotate_left; (focus (have hF := FACT.out w1 hw1; go_simp; first | done | rfl)); go_simp; refine hK _ ?_; clear hK K)
  (refine wpLoose_valK rfl ?_ (fun w1 hw1 => ?_) (fun K hK => ?_); rotate_left; (focus (have hF := FACT.out w1 hw1; go_simp; first | done | rfl)); go_simp; refine hK _ ?_; clear hK K)
  (refine wpLoose_valK rfl ?_ (fun w1 hw1 => ?_) (fun K hK => ?_); rotate_left; (focus (have hF := FACT.out w1 hw1; go_simp; first | done | rfl)); go_simp; refine hK _ ?_; clear hK K)
  refine wpLoose_callS rfl 83 #[.agg #[.slice (some ⟨b0, o0, none⟩) n k0, .slice (some ⟨b1, o1, none⟩) n k1, .slice (some ⟨b2, o2, none⟩) n k2, .slice (some ⟨b3, o3, none⟩) n k3], .int .i64 ((k : Int) + 1)] (fun w1 => ?_) (fun w1 hw1 => ?_) (fun v hv => ?_)
  · go_simp
  · refine (H1.out w1 hw1).mono ?_
    rintro e w2 ⟨x, hx, rfl, hb⟩
    exact ⟨_, rfl, fun _ => ⟨fun h => absurd h (by simp <;> omega), fun _ => ⟨x, hx, rfl⟩⟩, hb⟩
  obtain ⟨y, hy, rfl⟩ := (hv rfl).2 rfl
  have Y := Lib.hid hy
  clear hv hy
  repeat (first | (refine wpLoose_farithB rfl _ _ _ _ _ rfl rfl _ _ _ rfl rfl ?_; intro _ _) | (refine wpLoose_valK rfl ?_ (fun w1 hw1 => ?_) (fun K hK => ?_); rotate_left; (focus (have hF := FACT.out w1 hw1; go_simp; first | done | rfl)); go_simp; refine hK _ ?_; clear hK K))
  refine wpLoose_nil ?_; intro w1 hb
  go_wp2
  go_ret
  rename_i r1 h1 r2 h2
  exact ⟨_, by rw [h2.1, h1.1, X.out, Y.out]; rfl, rfl, below_step Bw.out hb⟩

/-- is there a cell and a next one -/
def pbOk (r : RL) (i : Int) : Bool := vRod r && decide (0 ≤ i) && decide (i ≤ (r.W.length : Int) - 2)
def pbS (r : RL) (i : Int) : Nat := if pbOk r i then ifF (bV r i.toNat) else 0
def pbB (r : RL) (i : Int) : Bool := pbOk r i && fin .f32 (bV r i.toNat)
theorem pb_no {r : RL} {i : Int} {w w' : World} (hv : pbOk r i = false) (hb : Below w.heap.size w w') : GivB (pbS r i) (pbB r i) w (.returned (.tuple #[.float .f32 0, .bool false])) w' :=
  ⟨0, by simp [pbS, hv]; rfl, by simp [pbB, hv], hb⟩
theorem pb_yes {r : RL} {i : Int} {x : Nat} {w w' : World} (hv : pbOk r i = true) (hx : cn .f32 x = bV r i.toNat) (hb : Below w.heap.size w w') : GivB (pbS r i) (pbB r i) w (.returned (.tuple #[.float .f32 (ifF x), .bool (fin .f32 x)])) w' := by
  have := GivB.num (w := w) hx hb
  simpa [pbS, pbB, hv] using this

end Go.Proofs.Ytkbdidpodcclfaa

/- How much passes at an end of a rod. -/
namespace Go.Proofs.Ytkbdidpodcclfaa
open Go.RowKit
set_option linter.unusedVariables false

/-- the cell at an end -/
def eC (n : Nat) (last : Bool) : Nat := if last then n - 1 else 0
/-- how much passes there, with h for half of what the cell hinders -/
def aV (k : Int) (y h : Nat) : Nat :=
  if k = 0 then fop .quo .f32 (cn .f32 1065353216) h else if k = 1 then 0 else fop .quo .f32 (cn .f32 1065353216) (fop .add .f32 h (fop .quo .f32 (cn .f32 1065353216) (cn .f32 y)))
theorem kOk_cases {k : Int} (h : kOk k = true) : k = 0 ∨ k = 1 ∨ k = 2 := by
  unfold kOk at h
  simp only [Bool.and_eq_true, decide_eq_true_eq] at h
  omega

theorem endCell_any {n b0 o0 k0 b1 o1 k1 b2 o2 k2 b3 o3 k3 : Nat} (r : RL) (last : Bool) (w : World) (hq : n ≤ 48) (hp : 1 ≤ n) :
    Calls Try.prog 63 #[.agg #[.slice (some ⟨b0, o0, none⟩) n k0, .slice (some ⟨b1, o1, none⟩) n k1, .slice (some ⟨b2, o2, none⟩) n k2, .slice (some ⟨b3, o3, none⟩) n k3], .bool last] w fun e w' => e = .returned (.int .i64 ((eC n last : Nat) : Int)) ∧ Below w.heap.size w w' := by
  obtain ⟨m, hm⟩ : ∃ m : Nat, m + 1 = n := ⟨n - 1, by omega⟩
  have e1 : ((n : Int) - 1) = (m : Int) := by omega
  have e2 : Hid (eC n true = m) := Lib.hid (by unfold eC; simp; omega)
  have e3 : Hid (eC n false = 0) := Lib.hid (by unfold eC; simp)
  clear hm
  cases last
  · go_enter Try.func63, Try.ntmps63
    go_wp2
    go_ret
    exact ⟨by rw [e3.out]; rfl, below_al1 _ _⟩
  · go_enter Try.func63, Try.ntmps63
    go_wp2
    go_ret
    exact ⟨by rw [e2.out]; rfl, below_al1 _ _⟩

theorem specAtEnd_any {n b0 o0 k0 b1 o1 k1 b2 o2 k2 b3 o3 k3 : Nat} (r : RL) (last : Bool) (p q : Nat) (k : Int) (x y : Nat) (w : World) (A : Cells w p [.slice (some ⟨b0, o0, none⟩) n k0, .slice (some ⟨b1, o1, none⟩) n k1, .slice (some ⟨b2, o2, none⟩) n k2, .slice (some ⟨b3, o3, none⟩) n k3]) (E : Cells w q [.int .i64 k, .float .f32 x, .float .f32 y]) (h : Lay w n b0 o0 k0 b1 o1 k1 b2 o2 k2 b3 o3 k3 r) (hq : n ≤ 48) (hp : 1 ≤ n) (hk : kOk k = true) :
    Calls Try.prog 90 #[.pointer (some ⟨p, 0, none⟩), .bool last, .pointer (some ⟨q, 0, none⟩)] w (FlD (aV k y (hN r (eC n last))) w) := by
  obtain ⟨m, hm⟩ : ∃ m : Nat, m + 1 = n := ⟨n - 1, by omega⟩
  have e1 : ((n : Int) - 1) = (m : Int) := by omega
  have e2 : Hid (eC n true = m) := Lib.hid (by unfold eC; simp; omega)
  have e3 : Hid (eC n false = 0) := Lib.hid (by unfold eC; simp)
  have H0 := Lib.hid (specHalf_any r 0 p w A h (by omega))
  have H1 := Lib.hid (specHalf_any r m p w A h (by omega))
  have c0 := A.at 0 rfl
  have d0 := E.at 0 rfl
  have d2 := E.at 2 rfl
  clear A E h hm
  rcases kOk_cases hk with rfl | rfl | rfl
  all_goals clear hk
  all_goals cases last
  · go_enter Try.func90, Try.ntmps90
    have EE := e3
    go_wp2_with (first | (refine wpList_farith rfl _ _ _ _ _ rfl rfl _ _ _ rfl rfl ?_; intro _ _ _) | (go_at_call 69; refine H0.out.mono ?_; rintro e w' ⟨x, hx, rfl, n, rfl⟩; have X := Lib.hid hx; clear hx))
    go_ret
    rename_i r1 j1 h1
    exact ⟨_, by rw [h1.1, X.out, EE.out]; rfl, rfl, _, rfl⟩
  · go_enter Try.func90, Try.ntmps90
    have EE := e2
    go_wp2_with (first | (refine wpList_farith rfl _ _ _ _ _ rfl rfl _ _ _ rfl rfl ?_; intro _ _ _) | (go_at_call 69; refine H1.out.mono ?_; rintro e w' ⟨x, hx, rfl, n, rfl⟩; have X := Lib.hid hx; clear hx))
    go_ret
    rename_i r1 j1 h1
    exact ⟨_, by rw [h1.1, X.out, EE.out]; rfl, rfl, _, rfl⟩
  · go_enter Try.func90, Try.ntmps90
    have EE := e3
    go_wp2_with (first | (refine wpList_farith rfl _ _ _ _ _ rfl rfl _ _ _ rfl rfl ?_; intro _ _ _) | (go_at_call 69; refine H0.out.mono ?_; rintro e w' ⟨x, hx, rfl, n, rfl⟩; have X := Lib.hid hx; clear hx))
    go_ret
    exact ⟨0, by rw [EE.out]; rfl, rfl, _, rfl⟩
  · go_enter Try.func90, Try.ntmps90
    have EE := e2
    go_wp2_with (first | (refine wpList_farith rfl _ _ _ _ _ rfl rfl _ _ _ rfl rfl ?_; intro _ _ _) | (go_at_call 69; refine H1.out.mono ?_; rintro e w' ⟨x, hx, rfl, n, rfl⟩; have X := Lib.hid hx; clear hx))
    go_ret
    exact ⟨0, by rw [EE.out]; rfl, rfl, _, rfl⟩
  · go_enter Try.func90, Try.ntmps90
    have EE := e3
    go_wp2_with (first | (refine wpList_farith rfl _ _ _ _ _ rfl rfl _ _ _ rfl rfl ?_; intro _ _ _) | (go_at_call 69; refine H0.out.mono ?_; rintro e w' ⟨x, hx, rfl, n, rfl⟩; have X := Lib.hid hx; clear hx))
    go_ret
    rename_i r1 j1 h1 r2 j2 h2 r3 j3 h3
    exact ⟨_, by rw [h3.1, h2.1, h1.1, X.out, EE.out]; rfl, rfl, _, rfl⟩
  · go_enter Try.func90, Try.ntmps90
    have EE := e2
    go_wp2_with (first | (refine wpList_farith rfl _ _ _ _ _ rfl rfl _ _ _ rfl rfl ?_; intro _ _ _) | (go_at_call 69; refine H1.out.mono ?_; rintro e w' ⟨x, hx, rfl, n, rfl⟩; have X := Lib.hid hx; clear hx))
    go_ret
    rename_i r1 j1 h1 r2 j2 h2 r3 j3 h3
    exact ⟨_, by rw [h3.1, h2.1, h1.1, X.out, EE.out]; rfl, rfl, _, rfl⟩

/-- what passTo hands back: a function that tells how much passes, from half of what the cell hinders -/
def PTo (k : Int) (y : Nat) (w : World) (e : Ending) (w' : World) : Prop :=
  ∃ v, e = .returned v ∧ Below w.heap.size w w' ∧
    ((k = 0 ∧ v = .func (.func 104) #[] #[]) ∨ (k = 1 ∧ v = .func (.func 106) #[] #[]) ∨
      (k = 2 ∧ ∃ q s, v = .func (.func 105) #[] #[.pointer (some ⟨q, 0, none⟩)] ∧ Cells w' q [.float .f32 s] ∧ cn .f32 s = fop .quo .f32 (cn .f32 1065353216) (cn .f32 y)))
theorem passTo_any (k : Int) (x y : Nat) (w : World) (hk : kOk k = true) : Calls Try.prog 82 #[endV k x y] w (PTo k y w) := by
  unfold endV
  rcases kOk_cases hk with rfl | rfl | rfl
  · go_enter Try.func82, Try.ntmps82
    go_wp2
    go_ret
    exact ⟨_, rfl, below_al1 _ _, .inl ⟨rfl, rfl⟩⟩
  · go_enter Try.func82, Try.ntmps82
    go_wp2
    go_ret
    exact ⟨_, rfl, below_al1 _ _, .inr (.inl ⟨rfl, rfl⟩)⟩
  · go_enter Try.func82, Try.ntmps82
    go_wp2_with (refine wpList_farith rfl _ _ _ _ _ rfl rfl _ _ _ rfl rfl ?_; intro _ _ _)
    rename_i s j hs
    go_ret
    have M := Cells.made ((w.alloc (.cells [Value.int .i64 2, .float .f32 x, .float .f32 y].toArray 47)).drewN j) [.float .f32 s] 22
    rw [show ((w.alloc (.cells [Value.int .i64 2, .float .f32 x, .float .f32 y].toArray 47)).drewN j).heap.size = w.heap.size + 1 from by simp] at M
    exact ⟨_, rfl, (below_drewN (below_al1 _ _) _).alloc (by simp) _, .inr (.inr ⟨rfl, _, s, rfl, M, hs.1⟩)⟩
theorem pass1_any (h : Nat) (w : World) : Calls Try.prog 104 #[.float .f32 h] w (FlD (fop .quo .f32 (cn .f32 1065353216) (cn .f32 h)) w) := by
  go_enter Try.func104, Try.ntmps104
  go_wp2_with (refine wpList_farith rfl _ _ _ _ _ rfl rfl _ _ _ rfl rfl ?_; intro _ _ _)
  go_ret
  rename_i h1
  exact ⟨_, h1.1, rfl, _, rfl⟩
theorem pass3_any (h : Nat) (w : World) : Calls Try.prog 106 #[.float .f32 h] w (FlD 0 w) := by
  go_enter Try.func106, Try.ntmps106
  go_wp2
  go_ret
  exact ⟨0, rfl, rfl, 0, rfl⟩
theorem pass2_any (h q s : Nat) (w : World) (hc : Cells w q [.float .f32 s]) : Calls Try.prog 105 #[.float .f32 h, .pointer (some ⟨q, 0, none⟩)] w (FlD (fop .quo .f32 (cn .f32 1065353216) (fop .add .f32 (cn .f32 h) (cn .f32 s))) w) := by
  have c0 := hc.at 0 rfl
  clear hc
  go_enter Try.func105, Try.ntmps105
  go_wp2_with (refine wpList_farith rfl _ _ _ _ _ rfl rfl _ _ _ rfl rfl ?_; intro _ _ _)
  go_ret
  rename_i r1 j1 h1 r2 j2 h2
  exact ⟨_, by rw [h2.1, h1.1], rfl, _, rfl⟩

def paOk (r : RL) (k : Int) (x y : Nat) : Bool := vRod r && vEnd k x y
def paV (r : RL) (last : Bool) (k : Int) (y : Nat) : Nat := aV k y (hN r (eC r.W.length last))
def paS (r : RL) (last : Bool) (k : Int) (x y : Nat) : Nat := if paOk r k x y then ifF (paV r last k y) else 0
def paB (r : RL) (last : Bool) (k : Int) (x y : Nat) : Bool := paOk r k x y && fin .f32 (paV r last k y)
theorem pa_no {r : RL} {last : Bool} {k : Int} {x y : Nat} {w w' : World} (hv : paOk r k x y = false) (hb : Below w.heap.size w w') : GivB (paS r last k x y) (paB r last k x y) w (.returned (.tuple #[.float .f32 0, .bool false])) w' :=
  ⟨0, by simp [paS, hv]; rfl, by simp [paB, hv], hb⟩
theorem pa_yes {r : RL} {last : Bool} {k : Int} {x y z : Nat} {w w' : World} (hv : paOk r k x y = true) (hx : cn .f32 z = paV r last k y) (hb : Below w.heap.size w w') : GivB (paS r last k x y) (paB r last k x y) w (.returned (.tuple #[.float .f32 (ifF z), .bool (fin .f32 z)])) w' := by
  have := GivB.num (w := w) hx hb
  simpa [paS, paB, hv] using this
theorem vEnd_kOk {k : Int} {x y : Nat} (h : vEnd k x y = true) : kOk k = true := by
  unfold vEnd at h
  simp only [Bool.and_eq_true] at h
  exact h.1.1

set_option maxHeartbeats 800000 in
theorem specPassAtEnd_any (a b c d : Value) (r : RL) (last : Bool) (k : Int) (x y : Nat) (w : World) (h : RRow w a b c d r) : Calls Try.prog 67 #[.agg #[a, b, c, d], .bool last, endV k x y] w (GivB (paS r last k x y) (paB r last k x y) w) := by
  have A0 := (Cells.made w [a, b, c, d] 25).al (.cells [Value.int .i64 k, .float .f32 x, .float .f32 y].toArray 47)
  have E0 := Cells.made (w.alloc (.cells [a, b, c, d].toArray 25)) [.int .i64 k, .float .f32 x, .float .f32 y] 47
  rw [show (w.alloc (.cells [a, b, c, d].toArray 25)).heap.size = w.heap.size + 1 from by simp] at E0
  have IS := Lib.hid (specIs_any a b c d r _ _ A0 (h.below (below_al2 _ _ _)))
  have Bw := Lib.hid (below_al2 w (.cells [a, b, c, d].toArray 25) (.cells [Value.int .i64 k, .float .f32 x, .float .f32 y].toArray 47))
  have EN := Lib.hid (fun m => specEnd_any k x y _ (((w.alloc (.cells [a, b, c, d].toArray 25)).alloc (.cells [Value.int .i64 k, .float .f32 x, .float .f32 y].toArray 47)).drewN m) (E0.at 0 rfl) (E0.at 1 rfl) (E0.at 2 rfl))
  cases hv : vRod r
  · rw [hv] at IS
    have hn : paOk r k x y = false := by simp [paOk, hv]
    have N := Lib.hid hn
    clear h hv hn A0 E0 EN
    unfold endV
    go_enter Try.func67, Try.ntmps67
    go_wp2_with (go_at_call 44; refine IS.out.mono ?_; rintro e w' ⟨rfl, n, rfl⟩)
    go_ret2
    exact pa_no N.out (below_drewN Bw.out _)
  · rw [hv] at IS
    cases he : vEnd k x y
    · rw [he] at EN
      have hn : paOk r k x y = false := by simp [paOk, he]
      have N := Lib.hid hn
      clear h hv hn A0 E0 he
      unfold endV
      go_enter Try.func67, Try.ntmps67
      go_wp2_with (first | (go_at_call 44; refine IS.out.mono ?_; rintro e w' ⟨rfl, n, rfl⟩) | (go_at_call 79; refine (EN.out _).mono ?_; rintro e w' ⟨rfl, n1, rfl⟩))
      go_ret2
      exact pa_no N.out (below_drewN Bw.out _)
    · rw [he] at EN
      have PY := Lib.hid (fun z w' (hx : cn .f32 z = aV k y (hN r (eC r.W.length last))) (hb : Below w.heap.size w w') => pa_yes (r := r) (last := last) (k := k) (x := x) (y := y) (by simp [paOk, hv, he]) hx hb)
      obtain ⟨b0, o0, k0, b1, o1, k1, b2, o2, k2, b3, o3, k3, rfl, rfl, rfl, rfl, hL⟩ := h.lay (Len.ofV hv)
      have hq := (Len.ofV hv).q
      have hp := (Len.ofV hv).p
      have hk := vEnd_kOk he
      generalize paS r last k x y = GS at *
      generalize paB r last k x y = GB at *
      generalize r.W.length = n at *
      have SO := Lib.hid (fun m => specAtEnd_any r last _ _ k x y (((w.alloc (.cells [Value.slice (some ⟨b0, o0, none⟩) n k0, .slice (some ⟨b1, o1, none⟩) n k1, .slice (some ⟨b2, o2, none⟩) n k2, .slice (some ⟨b3, o3, none⟩) n k3].toArray 25)).alloc (.cells [Value.int .i64 k, .float .f32 x, .float .f32 y].toArray 47)).drewN m) (Cells.drewN A0) (Cells.drewN E0) (hL.below (below_drewN Bw.out m)) hq hp hk)
      clear h hv A0 E0 he hL hq hp hk
      unfold endV
      go_enter Try.func67, Try.ntmps67
      go_wp2_with (first | (go_at_call 44; refine IS.out.mono ?_; rintro e w' ⟨rfl, n1, rfl⟩) | (go_at_call 79; refine (EN.out _).mono ?_; rintro e w' ⟨rfl, n2, rfl⟩) | (go_at_call 90; refine (SO.out _).mono ?_; rintro e w' ⟨z, hx, rfl, n3, rfl⟩; have X := Lib.hid hx; clear hx) | (go_at_call 89; refine (specNum_any _ _).mono ?_; rintro e w' ⟨rfl, n4, rfl⟩))
      go_ret2
      exact PY.out _ _ X.out (below_drewN Bw.out _)

set_option maxHeartbeats 1600000 in
theorem implPA0_any {n b0 o0 k0 b1 o1 k1 b2 o2 k2 b3 o3 k3 : Nat} (r : RL) (last : Bool) (x y : Nat) (w : World) (h : Lay w n b0 o0 k0 b1 o1 k1 b2 o2 k2 b3 o3 k3 r) (hl : Len r n) (hv : vRod r = true) (he : vEnd 0 x y = true) :
    Calls Try.prog 109 #[.agg #[.slice (some ⟨b0, o0, none⟩) n k0, .slice (some ⟨b1, o1, none⟩) n k1, .slice (some ⟨b2, o2, none⟩) n k2, .slice (some ⟨b3, o3, none⟩) n k3], .bool last, .agg #[.int .i64 0, .float .f32 x, .float .f32 y]] w (GivB (paS r last 0 x y) (paB r last 0 x y) w) := by
  have IV := Lib.hid (fun w1 (hr : RRow w1 (.slice (some ⟨b0, o0, none⟩) n k0) (.slice (some ⟨b1, o1, none⟩) n k1) (.slice (some ⟨b2, o2, none⟩) n k2) (.slice (some ⟨b3, o3, none⟩) n k3) r) => implValid_any _ _ _ _ r w1 hr)
  rw [hv] at IV
  have IE := Lib.hid (fun w1 => implVEnd_any 0 x y w1)
  unfold endV at IE
  rw [he] at IE
  have PT := Lib.hid (fun w1 => passTo_any 0 x y w1 (by decide))
  unfold endV at PT
  have PY := Lib.hid (fun z w' (hx : cn .f32 z = aV 0 y (hN r (eC n last))) (hb : Below w.heap.size w w') => pa_yes (r := r) (last := last) (k := 0) (x := x) (y := y) (w := w) (by simp [paOk, hv, he]) (by unfold paV; rw [hl.W]; exact hx) hb)
  have hm : maxLen = 9223372036854775807 := rfl
  have RW : Hid (∀ w1, Below w.heap.size w w1 → RRow w1 (.slice (some ⟨b0, o0, none⟩) n k0) (.slice (some ⟨b1, o1, none⟩) n k1) (.slice (some ⟨b2, o2, none⟩) n k2) (.slice (some ⟨b3, o3, none⟩) n k3) r) := Lib.hid (fun w1 hb => by
    have h' := h.below hb
    have q := hl.q
    refine ⟨.inr ⟨_, _, _, by rw [hl.W], by rw [hl.W, hm]; omega, by rw [hl.W]; exact h'.W⟩, .inr ⟨_, _, _, by rw [hl.E], by rw [hl.E, hm]; omega, by rw [hl.E]; exact h'.E⟩, .inr ⟨_, _, _, by rw [hl.H], by rw [hl.H, hm]; omega, by rw [hl.H]; exact h'.H⟩, .inr ⟨_, _, _, by rw [hl.T], by rw [hl.T, hm]; omega, by rw [hl.T]; exact h'.T⟩⟩)
  have HQ := Lib.hid hl.q
  have HP := Lib.hid hl.p
  have CB : Hid (eC n last < n) := Lib.hid (by have := hl.p; unfold eC; split <;> omega)
  have A := Lib.hid ((Cells.made w [.slice (some ⟨b0, o0, none⟩) n k0, .slice (some ⟨b1, o1, none⟩) n k1, .slice (some ⟨b2, o2, none⟩) n k2, .slice (some ⟨b3, o3, none⟩) n k3] 25).al (.cells [Value.int .i64 0, .float .f32 x, .float .f32 y].toArray 47))
  have E := Cells.made (w.alloc (.cells [Value.slice (some ⟨b0, o0, none⟩) n k0, .slice (some ⟨b1, o1, none⟩) n k1, .slice (some ⟨b2, o2, none⟩) n k2, .slice (some ⟨b3, o3, none⟩) n k3].toArray 25)) [.int .i64 0, .float .f32 x, .float .f32 y] 47
  rw [show (w.alloc (.cells [Value.slice (some ⟨b0, o0, none⟩) n k0, .slice (some ⟨b1, o1, none⟩) n k1, .slice (some ⟨b2, o2, none⟩) n k2, .slice (some ⟨b3, o3, none⟩) n k3].toArray 25)).heap.size = w.heap.size + 1 from by simp] at E
  have E := Lib.hid E
  have Bw := Lib.hid (below_al2 w (.cells [Value.slice (some ⟨b0, o0, none⟩) n k0, .slice (some ⟨b1, o1, none⟩) n k1, .slice (some ⟨b2, o2, none⟩) n k2, .slice (some ⟨b3, o3, none⟩) n k3].toArray 25) (.cells [Value.int .i64 0, .float .f32 x, .float .f32 y].toArray 47))
  have LY := Lib.hid (h.below (below_al2 w (.cells [Value.slice (some ⟨b0, o0, none⟩) n k0, .slice (some ⟨b1, o1, none⟩) n k1, .slice (some ⟨b2, o2, none⟩) n k2, .slice (some ⟨b3, o3, none⟩) n k3].toArray 25) (.cells [Value.int .i64 0, .float .f32 x, .float .f32 y].toArray 47)))
  clear h hl hv he hm
  generalize paS r last 0 x y = GS at *
  generalize paB r last 0 x y = GB at *
  go_enter Try.func109, Try.ntmps109
  go_wp2_with fail
  refine (IV.out _ (RW.out _ Bw.out)).mono ?_
  rintro _ w1 ⟨rfl, hb⟩
  (first | (have Bw := Lib.hid (below_step Bw.out hb)) | (have Bw := Lib.hid (below_step Bw.out (below_undrew hb)))); (first | (have A := Lib.hid (A.out.kept hb)) | (have A := Lib.hid (A.out.kept (below_undrew hb)))); (first | (have E := Lib.hid (E.out.kept hb)) | (have E := Lib.hid (E.out.kept (below_undrew hb)))); (first | (have LY := Lib.hid (LY.out.below hb)) | (have LY := Lib.hid (LY.out.below (below_undrew hb)))); (try (first | (have SK := Lib.hid (SK.out.kept hb)) | (have SK := Lib.hid (SK.out.kept (below_undrew hb))))); have c0 := A.out.at 0 rfl; have c1 := A.out.at 1 rfl; have c2 := A.out.at 2 rfl; have c3 := A.out.at 3 rfl; have d0 := E.out.at 0 rfl; have d1 := E.out.at 1 rfl; have d2 := E.out.at 2 rfl
  clear hb
  go_wp2_with fail
  refine (IE.out _).mono ?_
  rintro _ w2 ⟨rfl, hb⟩
  (first | (have Bw := Lib.hid (below_step Bw.out hb)) | (have Bw := Lib.hid (below_step Bw.out (below_undrew hb)))); (first | (have A := Lib.hid (A.out.kept hb)) | (have A := Lib.hid (A.out.kept (below_undrew hb)))); (first | (have E := Lib.hid (E.out.kept hb)) | (have E := Lib.hid (E.out.kept (below_undrew hb)))); (first | (have LY := Lib.hid (LY.out.below hb)) | (have LY := Lib.hid (LY.out.below (below_undrew hb)))); (try (first | (have SK := Lib.hid (SK.out.kept hb)) | (have SK := Lib.hid (SK.out.kept (below_undrew hb))))); have c0 := A.out.at 0 rfl; have c1 := A.out.at 1 rfl; have c2 := A.out.at 2 rfl; have c3 := A.out.at 3 rfl; have d0 := E.out.at 0 rfl; have d1 := E.out.at 1 rfl; have d2 := E.out.at 2 rfl
  clear hb
  go_wp2_with fail
  go_region_held3 (fun w' => w'.cell? ⟨w.heap.size, 0, none⟩ = some (.slice (some ⟨b0, o0, none⟩) n k0) ∧ w'.cell? ⟨w.heap.size, 1, none⟩ = some (.slice (some ⟨b1, o1, none⟩) n k1) ∧ w'.cell? ⟨w.heap.size, 2, none⟩ = some (.slice (some ⟨b2, o2, none⟩) n k2) ∧ w'.cell? ⟨w.heap.size, 3, none⟩ = some (.slice (some ⟨b3, o3, none⟩) n k3) ∧ w'.cell? ⟨w.heap.size + 1, 0, none⟩ = some (.int .i64 0) ∧ w'.cell? ⟨w.heap.size + 1, 1, none⟩ = some (.float .f32 x) ∧ w'.cell? ⟨w.heap.size + 1, 2, none⟩ = some (.float .f32 y)) (exact ⟨c0, c1, c2, c3, d0, d1, d2⟩)
    (first
    | (go_at_call 82; refine (PT.out _).mono ?_; rintro e w' ⟨v, rfl, hb, (⟨-, rfl⟩ | ⟨h0, -⟩ | ⟨h0, -⟩)⟩; rotate_left; (exact absurd h0 (by decide)); (exact absurd h0 (by decide));  (first | (have Bw := Lib.hid (below_step Bw.out hb)) | (have Bw := Lib.hid (below_step Bw.out (below_undrew hb)))); (first | (have A := Lib.hid (A.out.kept hb)) | (have A := Lib.hid (A.out.kept (below_undrew hb)))); (first | (have E := Lib.hid (E.out.kept hb)) | (have E := Lib.hid (E.out.kept (below_undrew hb)))); (first | (have LY := Lib.hid (LY.out.below hb)) | (have LY := Lib.hid (LY.out.below (below_undrew hb)))); (try (first | (have SK := Lib.hid (SK.out.kept hb)) | (have SK := Lib.hid (SK.out.kept (below_undrew hb))))); have c0 := A.out.at 0 rfl; have c1 := A.out.at 1 rfl; have c2 := A.out.at 2 rfl; have c3 := A.out.at 3 rfl; have d0 := E.out.at 0 rfl; have d1 := E.out.at 1 rfl; have d2 := E.out.at 2 rfl;  clear hb)
    | (go_at_call 63; refine (endCell_any r last _ HQ.out HP.out).mono ?_; rintro e w' ⟨rfl, hb⟩; (first | (have Bw := Lib.hid (below_step Bw.out hb)) | (have Bw := Lib.hid (below_step Bw.out (below_undrew hb)))); (first | (have A := Lib.hid (A.out.kept hb)) | (have A := Lib.hid (A.out.kept (below_undrew hb)))); (first | (have E := Lib.hid (E.out.kept hb)) | (have E := Lib.hid (E.out.kept (below_undrew hb)))); (first | (have LY := Lib.hid (LY.out.below hb)) | (have LY := Lib.hid (LY.out.below (below_undrew hb)))); (try (first | (have SK := Lib.hid (SK.out.kept hb)) | (have SK := Lib.hid (SK.out.kept (below_undrew hb))))); have c0 := A.out.at 0 rfl; have c1 := A.out.at 1 rfl; have c2 := A.out.at 2 rfl; have c3 := A.out.at 3 rfl; have d0 := E.out.at 0 rfl; have d1 := E.out.at 1 rfl; have d2 := E.out.at 2 rfl; clear hb)
    | (go_at_call 83; refine (implHalf_any r (eC n last) _ LY.out CB.out).mono ?_; rintro e w' ⟨hh, hx, rfl, hb⟩; have HH := Lib.hid hx; (first | (have Bw := Lib.hid (below_step Bw.out hb)) | (have Bw := Lib.hid (below_step Bw.out (below_undrew hb)))); (first | (have A := Lib.hid (A.out.kept hb)) | (have A := Lib.hid (A.out.kept (below_undrew hb)))); (first | (have E := Lib.hid (E.out.kept hb)) | (have E := Lib.hid (E.out.kept (below_undrew hb)))); (first | (have LY := Lib.hid (LY.out.below hb)) | (have LY := Lib.hid (LY.out.below (below_undrew hb)))); (try (first | (have SK := Lib.hid (SK.out.kept hb)) | (have SK := Lib.hid (SK.out.kept (below_undrew hb))))); have c0 := A.out.at 0 rfl; have c1 := A.out.at 1 rfl; have c2 := A.out.at 2 rfl; have c3 := A.out.at 3 rfl; have d0 := E.out.at 0 rfl; have d1 := E.out.at 1 rfl; have d2 := E.out.at 2 rfl; clear hb hx)
    | (go_at_call 104; refine (pass1_any _ _).mono ?_; rintro e w' ⟨z, hz, rfl, m, rfl⟩; have Z := Lib.hid hz; clear hz)
    | (go_at_call 93; refine (implNum_any _ _).mono ?_; rintro e w' ⟨rfl, m2, rfl⟩))
  all_goals
    go_wp2
    go_ret2
    exact PY.out _ _ (by rw [Z.out, HH.out]; rfl) (by first | exact below_drewN Bw.out _ | exact below_drewN (below_drewN Bw.out _) _)

set_option maxHeartbeats 1600000 in
theorem implPA1_any {n b0 o0 k0 b1 o1 k1 b2 o2 k2 b3 o3 k3 : Nat} (r : RL) (last : Bool) (x y : Nat) (w : World) (h : Lay w n b0 o0 k0 b1 o1 k1 b2 o2 k2 b3 o3 k3 r) (hl : Len r n) (hv : vRod r = true) (he : vEnd 1 x y = true) :
    Calls Try.prog 109 #[.agg #[.slice (some ⟨b0, o0, none⟩) n k0, .slice (some ⟨b1, o1, none⟩) n k1, .slice (some ⟨b2, o2, none⟩) n k2, .slice (some ⟨b3, o3, none⟩) n k3], .bool last, .agg #[.int .i64 1, .float .f32 x, .float .f32 y]] w (GivB (paS r last 1 x y) (paB r last 1 x y) w) := by
  have IV := Lib.hid (fun w1 (hr : RRow w1 (.slice (some ⟨b0, o0, none⟩) n k0) (.slice (some ⟨b1, o1, none⟩) n k1) (.slice (some ⟨b2, o2, none⟩) n k2) (.slice (some ⟨b3, o3, none⟩) n k3) r) => implValid_any _ _ _ _ r w1 hr)
  rw [hv] at IV
  have IE := Lib.hid (fun w1 => implVEnd_any 1 x y w1)
  unfold endV at IE
  rw [he] at IE
  have PT := Lib.hid (fun w1 => passTo_any 1 x y w1 (by decide))
  unfold endV at PT
  have PY := Lib.hid (fun z w' (hx : cn .f32 z = aV 1 y (hN r (eC n last))) (hb : Below w.heap.size w w') => pa_yes (r := r) (last := last) (k := 1) (x := x) (y := y) (w := w) (by simp [paOk, hv, he]) (by unfold paV; rw [hl.W]; exact hx) hb)
  have hm : maxLen = 9223372036854775807 := rfl
  have RW : Hid (∀ w1, Below w.heap.size w w1 → RRow w1 (.slice (some ⟨b0, o0, none⟩) n k0) (.slice (some ⟨b1, o1, none⟩) n k1) (.slice (some ⟨b2, o2, none⟩) n k2) (.slice (some ⟨b3, o3, none⟩) n k3) r) := Lib.hid (fun w1 hb => by
    have h' := h.below hb
    have q := hl.q
    refine ⟨.inr ⟨_, _, _, by rw [hl.W], by rw [hl.W, hm]; omega, by rw [hl.W]; exact h'.W⟩, .inr ⟨_, _, _, by rw [hl.E], by rw [hl.E, hm]; omega, by rw [hl.E]; exact h'.E⟩, .inr ⟨_, _, _, by rw [hl.H], by rw [hl.H, hm]; omega, by rw [hl.H]; exact h'.H⟩, .inr ⟨_, _, _, by rw [hl.T], by rw [hl.T, hm]; omega, by rw [hl.T]; exact h'.T⟩⟩)
  have HQ := Lib.hid hl.q
  have HP := Lib.hid hl.p
  have CB : Hid (eC n last < n) := Lib.hid (by have := hl.p; unfold eC; split <;> omega)
  have A := Lib.hid ((Cells.made w [.slice (some ⟨b0, o0, none⟩) n k0, .slice (some ⟨b1, o1, none⟩) n k1, .slice (some ⟨b2, o2, none⟩) n k2, .slice (some ⟨b3, o3, none⟩) n k3] 25).al (.cells [Value.int .i64 1, .float .f32 x, .float .f32 y].toArray 47))
  have E := Cells.made (w.alloc (.cells [Value.slice (some ⟨b0, o0, none⟩) n k0, .slice (some ⟨b1, o1, none⟩) n k1, .slice (some ⟨b2, o2, none⟩) n k2, .slice (some ⟨b3, o3, none⟩) n k3].toArray 25)) [.int .i64 1, .float .f32 x, .float .f32 y] 47
  rw [show (w.alloc (.cells [Value.slice (some ⟨b0, o0, none⟩) n k0, .slice (some ⟨b1, o1, none⟩) n k1, .slice (some ⟨b2, o2, none⟩) n k2, .slice (some ⟨b3, o3, none⟩) n k3].toArray 25)).heap.size = w.heap.size + 1 from by simp] at E
  have E := Lib.hid E
  have Bw := Lib.hid (below_al2 w (.cells [Value.slice (some ⟨b0, o0, none⟩) n k0, .slice (some ⟨b1, o1, none⟩) n k1, .slice (some ⟨b2, o2, none⟩) n k2, .slice (some ⟨b3, o3, none⟩) n k3].toArray 25) (.cells [Value.int .i64 1, .float .f32 x, .float .f32 y].toArray 47))
  have LY := Lib.hid (h.below (below_al2 w (.cells [Value.slice (some ⟨b0, o0, none⟩) n k0, .slice (some ⟨b1, o1, none⟩) n k1, .slice (some ⟨b2, o2, none⟩) n k2, .slice (some ⟨b3, o3, none⟩) n k3].toArray 25) (.cells [Value.int .i64 1, .float .f32 x, .float .f32 y].toArray 47)))
  clear h hl hv he hm
  generalize paS r last 1 x y = GS at *
  generalize paB r last 1 x y = GB at *
  go_enter Try.func109, Try.ntmps109
  go_wp2_with fail
  refine (IV.out _ (RW.out _ Bw.out)).mono ?_
  rintro _ w1 ⟨rfl, hb⟩
  (first | (have Bw := Lib.hid (below_step Bw.out hb)) | (have Bw := Lib.hid (below_step Bw.out (below_undrew hb)))); (first | (have A := Lib.hid (A.out.kept hb)) | (have A := Lib.hid (A.out.kept (below_undrew hb)))); (first | (have E := Lib.hid (E.out.kept hb)) | (have E := Lib.hid (E.out.kept (below_undrew hb)))); (first | (have LY := Lib.hid (LY.out.below hb)) | (have LY := Lib.hid (LY.out.below (below_undrew hb)))); (try (first | (have SK := Lib.hid (SK.out.kept hb)) | (have SK := Lib.hid (SK.out.kept (below_undrew hb))))); have c0 := A.out.at 0 rfl; have c1 := A.out.at 1 rfl; have c2 := A.out.at 2 rfl; have c3 := A.out.at 3 rfl; have d0 := E.out.at 0 rfl; have d1 := E.out.at 1 rfl; have d2 := E.out.at 2 rfl
  clear hb
  go_wp2_with fail
  refine (IE.out _).mono ?_
  rintro _ w2 ⟨rfl, hb⟩
  (first | (have Bw := Lib.hid (below_step Bw.out hb)) | (have Bw := Lib.hid (below_step Bw.out (below_undrew hb)))); (first | (have A := Lib.hid (A.out.kept hb)) | (have A := Lib.hid (A.out.kept (below_undrew hb)))); (first | (have E := Lib.hid (E.out.kept hb)) | (have E := Lib.hid (E.out.kept (below_undrew hb)))); (first | (have LY := Lib.hid (LY.out.below hb)) | (have LY := Lib.hid (LY.out.below (below_undrew hb)))); (try (first | (have SK := Lib.hid (SK.out.kept hb)) | (have SK := Lib.hid (SK.out.kept (below_undrew hb))))); have c0 := A.out.at 0 rfl; have c1 := A.out.at 1 rfl; have c2 := A.out.at 2 rfl; have c3 := A.out.at 3 rfl; have d0 := E.out.at 0 rfl; have d1 := E.out.at 1 rfl; have d2 := E.out.at 2 rfl
  clear hb
  go_wp2_with fail
  go_region_held3 (fun w' => w'.cell? ⟨w.heap.size, 0, none⟩ = some (.slice (some ⟨b0, o0, none⟩) n k0) ∧ w'.cell? ⟨w.heap.size, 1, none⟩ = some (.slice (some ⟨b1, o1, none⟩) n k1) ∧ w'.cell? ⟨w.heap.size, 2, none⟩ = some (.slice (some ⟨b2, o2, none⟩) n k2) ∧ w'.cell? ⟨w.heap.size, 3, none⟩ = some (.slice (some ⟨b3, o3, none⟩) n k3) ∧ w'.cell? ⟨w.heap.size + 1, 0, none⟩ = some (.int .i64 1) ∧ w'.cell? ⟨w.heap.size + 1, 1, none⟩ = some (.float .f32 x) ∧ w'.cell? ⟨w.heap.size + 1, 2, none⟩ = some (.float .f32 y)) (exact ⟨c0, c1, c2, c3, d0, d1, d2⟩)
    (first
    | (go_at_call 82; refine (PT.out _).mono ?_; rintro e w' ⟨v, rfl, hb, (⟨h0, -⟩ | ⟨-, rfl⟩ | ⟨h0, -⟩)⟩; (exact absurd h0 (by decide)); rotate_left; (exact absurd h0 (by decide));  (first | (have Bw := Lib.hid (below_step Bw.out hb)) | (have Bw := Lib.hid (below_step Bw.out (below_undrew hb)))); (first | (have A := Lib.hid (A.out.kept hb)) | (have A := Lib.hid (A.out.kept (below_undrew hb)))); (first | (have E := Lib.hid (E.out.kept hb)) | (have E := Lib.hid (E.out.kept (below_undrew hb)))); (first | (have LY := Lib.hid (LY.out.below hb)) | (have LY := Lib.hid (LY.out.below (below_undrew hb)))); (try (first | (have SK := Lib.hid (SK.out.kept hb)) | (have SK := Lib.hid (SK.out.kept (below_undrew hb))))); have c0 := A.out.at 0 rfl; have c1 := A.out.at 1 rfl; have c2 := A.out.at 2 rfl; have c3 := A.out.at 3 rfl; have d0 := E.out.at 0 rfl; have d1 := E.out.at 1 rfl; have d2 := E.out.at 2 rfl;  clear hb)
    | (go_at_call 63; refine (endCell_any r last _ HQ.out HP.out).mono ?_; rintro e w' ⟨rfl, hb⟩; (first | (have Bw := Lib.hid (below_step Bw.out hb)) | (have Bw := Lib.hid (below_step Bw.out (below_undrew hb)))); (first | (have A := Lib.hid (A.out.kept hb)) | (have A := Lib.hid (A.out.kept (below_undrew hb)))); (first | (have E := Lib.hid (E.out.kept hb)) | (have E := Lib.hid (E.out.kept (below_undrew hb)))); (first | (have LY := Lib.hid (LY.out.below hb)) | (have LY := Lib.hid (LY.out.below (below_undrew hb)))); (try (first | (have SK := Lib.hid (SK.out.kept hb)) | (have SK := Lib.hid (SK.out.kept (below_undrew hb))))); have c0 := A.out.at 0 rfl; have c1 := A.out.at 1 rfl; have c2 := A.out.at 2 rfl; have c3 := A.out.at 3 rfl; have d0 := E.out.at 0 rfl; have d1 := E.out.at 1 rfl; have d2 := E.out.at 2 rfl; clear hb)
    | (go_at_call 83; refine (implHalf_any r (eC n last) _ LY.out CB.out).mono ?_; rintro e w' ⟨hh, hx, rfl, hb⟩; have HH := Lib.hid hx; (first | (have Bw := Lib.hid (below_step Bw.out hb)) | (have Bw := Lib.hid (below_step Bw.out (below_undrew hb)))); (first | (have A := Lib.hid (A.out.kept hb)) | (have A := Lib.hid (A.out.kept (below_undrew hb)))); (first | (have E := Lib.hid (E.out.kept hb)) | (have E := Lib.hid (E.out.kept (below_undrew hb)))); (first | (have LY := Lib.hid (LY.out.below hb)) | (have LY := Lib.hid (LY.out.below (below_undrew hb)))); (try (first | (have SK := Lib.hid (SK.out.kept hb)) | (have SK := Lib.hid (SK.out.kept (below_undrew hb))))); have c0 := A.out.at 0 rfl; have c1 := A.out.at 1 rfl; have c2 := A.out.at 2 rfl; have c3 := A.out.at 3 rfl; have d0 := E.out.at 0 rfl; have d1 := E.out.at 1 rfl; have d2 := E.out.at 2 rfl; clear hb hx)
    | (go_at_call 106; refine (pass3_any _ _).mono ?_; rintro e w' ⟨z, hz, rfl, m, rfl⟩; have Z := Lib.hid hz; clear hz)
    | (go_at_call 93; refine (implNum_any _ _).mono ?_; rintro e w' ⟨rfl, m2, rfl⟩))
  all_goals
    go_wp2
    go_ret2
    exact PY.out _ _ (by rw [Z.out]; rfl) (by first | exact below_drewN Bw.out _ | exact below_drewN (below_drewN Bw.out _) _)

set_option maxHeartbeats 1600000 in
theorem implPA2_any {n b0 o0 k0 b1 o1 k1 b2 o2 k2 b3 o3 k3 : Nat} (r : RL) (last : Bool) (x y : Nat) (w : World) (h : Lay w n b0 o0 k0 b1 o1 k1 b2 o2 k2 b3 o3 k3 r) (hl : Len r n) (hv : vRod r = true) (he : vEnd 2 x y = true) :
    Calls Try.prog 109 #[.agg #[.slice (some ⟨b0, o0, none⟩) n k0, .slice (some ⟨b1, o1, none⟩) n k1, .slice (some ⟨b2, o2, none⟩) n k2, .slice (some ⟨b3, o3, none⟩) n k3], .bool last, .agg #[.int .i64 2, .float .f32 x, .float .f32 y]] w (GivB (paS r last 2 x y) (paB r last 2 x y) w) := by
  have IV := Lib.hid (fun w1 (hr : RRow w1 (.slice (some ⟨b0, o0, none⟩) n k0) (.slice (some ⟨b1, o1, none⟩) n k1) (.slice (some ⟨b2, o2, none⟩) n k2) (.slice (some ⟨b3, o3, none⟩) n k3) r) => implValid_any _ _ _ _ r w1 hr)
  rw [hv] at IV
  have IE := Lib.hid (fun w1 => implVEnd_any 2 x y w1)
  unfold endV at IE
  rw [he] at IE
  have PT := Lib.hid (fun w1 => passTo_any 2 x y w1 (by decide))
  unfold endV at PT
  have PY := Lib.hid (fun z w' (hx : cn .f32 z = aV 2 y (hN r (eC n last))) (hb : Below w.heap.size w w') => pa_yes (r := r) (last := last) (k := 2) (x := x) (y := y) (w := w) (by simp [paOk, hv, he]) (by unfold paV; rw [hl.W]; exact hx) hb)
  have hm : maxLen = 9223372036854775807 := rfl
  have RW : Hid (∀ w1, Below w.heap.size w w1 → RRow w1 (.slice (some ⟨b0, o0, none⟩) n k0) (.slice (some ⟨b1, o1, none⟩) n k1) (.slice (some ⟨b2, o2, none⟩) n k2) (.slice (some ⟨b3, o3, none⟩) n k3) r) := Lib.hid (fun w1 hb => by
    have h' := h.below hb
    have q := hl.q
    refine ⟨.inr ⟨_, _, _, by rw [hl.W], by rw [hl.W, hm]; omega, by rw [hl.W]; exact h'.W⟩, .inr ⟨_, _, _, by rw [hl.E], by rw [hl.E, hm]; omega, by rw [hl.E]; exact h'.E⟩, .inr ⟨_, _, _, by rw [hl.H], by rw [hl.H, hm]; omega, by rw [hl.H]; exact h'.H⟩, .inr ⟨_, _, _, by rw [hl.T], by rw [hl.T, hm]; omega, by rw [hl.T]; exact h'.T⟩⟩)
  have HQ := Lib.hid hl.q
  have HP := Lib.hid hl.p
  have CB : Hid (eC n last < n) := Lib.hid (by have := hl.p; unfold eC; split <;> omega)
  have A := Lib.hid ((Cells.made w [.slice (some ⟨b0, o0, none⟩) n k0, .slice (some ⟨b1, o1, none⟩) n k1, .slice (some ⟨b2, o2, none⟩) n k2, .slice (some ⟨b3, o3, none⟩) n k3] 25).al (.cells [Value.int .i64 2, .float .f32 x, .float .f32 y].toArray 47))
  have E := Cells.made (w.alloc (.cells [Value.slice (some ⟨b0, o0, none⟩) n k0, .slice (some ⟨b1, o1, none⟩) n k1, .slice (some ⟨b2, o2, none⟩) n k2, .slice (some ⟨b3, o3, none⟩) n k3].toArray 25)) [.int .i64 2, .float .f32 x, .float .f32 y] 47
  rw [show (w.alloc (.cells [Value.slice (some ⟨b0, o0, none⟩) n k0, .slice (some ⟨b1, o1, none⟩) n k1, .slice (some ⟨b2, o2, none⟩) n k2, .slice (some ⟨b3, o3, none⟩) n k3].toArray 25)).heap.size = w.heap.size + 1 from by simp] at E
  have E := Lib.hid E
  have Bw := Lib.hid (below_al2 w (.cells [Value.slice (some ⟨b0, o0, none⟩) n k0, .slice (some ⟨b1, o1, none⟩) n k1, .slice (some ⟨b2, o2, none⟩) n k2, .slice (some ⟨b3, o3, none⟩) n k3].toArray 25) (.cells [Value.int .i64 2, .float .f32 x, .float .f32 y].toArray 47))
  have LY := Lib.hid (h.below (below_al2 w (.cells [Value.slice (some ⟨b0, o0, none⟩) n k0, .slice (some ⟨b1, o1, none⟩) n k1, .slice (some ⟨b2, o2, none⟩) n k2, .slice (some ⟨b3, o3, none⟩) n k3].toArray 25) (.cells [Value.int .i64 2, .float .f32 x, .float .f32 y].toArray 47)))
  clear h hl hv he hm
  generalize paS r last 2 x y = GS at *
  generalize paB r last 2 x y = GB at *
  go_enter Try.func109, Try.ntmps109
  go_wp2_with fail
  refine (IV.out _ (RW.out _ Bw.out)).mono ?_
  rintro _ w1 ⟨rfl, hb⟩
  (first | (have Bw := Lib.hid (below_step Bw.out hb)) | (have Bw := Lib.hid (below_step Bw.out (below_undrew hb)))); (first | (have A := Lib.hid (A.out.kept hb)) | (have A := Lib.hid (A.out.kept (below_undrew hb)))); (first | (have E := Lib.hid (E.out.kept hb)) | (have E := Lib.hid (E.out.kept (below_undrew hb)))); (first | (have LY := Lib.hid (LY.out.below hb)) | (have LY := Lib.hid (LY.out.below (below_undrew hb)))); (try (first | (have SK := Lib.hid (SK.out.kept hb)) | (have SK := Lib.hid (SK.out.kept (below_undrew hb))))); have c0 := A.out.at 0 rfl; have c1 := A.out.at 1 rfl; have c2 := A.out.at 2 rfl; have c3 := A.out.at 3 rfl; have d0 := E.out.at 0 rfl; have d1 := E.out.at 1 rfl; have d2 := E.out.at 2 rfl
  clear hb
  go_wp2_with fail
  refine (IE.out _).mono ?_
  rintro _ w2 ⟨rfl, hb⟩
  (first | (have Bw := Lib.hid (below_step Bw.out hb)) | (have Bw := Lib.hid (below_step Bw.out (below_undrew hb)))); (first | (have A := Lib.hid (A.out.kept hb)) | (have A := Lib.hid (A.out.kept (below_undrew hb)))); (first | (have E := Lib.hid (E.out.kept hb)) | (have E := Lib.hid (E.out.kept (below_undrew hb)))); (first | (have LY := Lib.hid (LY.out.below hb)) | (have LY := Lib.hid (LY.out.below (below_undrew hb)))); (try (first | (have SK := Lib.hid (SK.out.kept hb)) | (have SK := Lib.hid (SK.out.kept (below_undrew hb))))); have c0 := A.out.at 0 rfl; have c1 := A.out.at 1 rfl; have c2 := A.out.at 2 rfl; have c3 := A.out.at 3 rfl; have d0 := E.out.at 0 rfl; have d1 := E.out.at 1 rfl; have d2 := E.out.at 2 rfl
  clear hb
  go_wp2_with fail
  go_region_held3 (fun w' => w'.cell? ⟨w.heap.size, 0, none⟩ = some (.slice (some ⟨b0, o0, none⟩) n k0) ∧ w'.cell? ⟨w.heap.size, 1, none⟩ = some (.slice (some ⟨b1, o1, none⟩) n k1) ∧ w'.cell? ⟨w.heap.size, 2, none⟩ = some (.slice (some ⟨b2, o2, none⟩) n k2) ∧ w'.cell? ⟨w.heap.size, 3, none⟩ = some (.slice (some ⟨b3, o3, none⟩) n k3) ∧ w'.cell? ⟨w.heap.size + 1, 0, none⟩ = some (.int .i64 2) ∧ w'.cell? ⟨w.heap.size + 1, 1, none⟩ = some (.float .f32 x) ∧ w'.cell? ⟨w.heap.size + 1, 2, none⟩ = some (.float .f32 y)) (exact ⟨c0, c1, c2, c3, d0, d1, d2⟩)
    (first
    | (go_at_call 82; refine (PT.out _).mono ?_; rintro e w' ⟨v, rfl, hb, (⟨h0, -⟩ | ⟨h0, -⟩ | ⟨-, q, s, rfl, hc, hs⟩)⟩; (exact absurd h0 (by decide)); (exact absurd h0 (by decide));  (first | (have Bw := Lib.hid (below_step Bw.out hb)) | (have Bw := Lib.hid (below_step Bw.out (below_undrew hb)))); (first | (have A := Lib.hid (A.out.kept hb)) | (have A := Lib.hid (A.out.kept (below_undrew hb)))); (first | (have E := Lib.hid (E.out.kept hb)) | (have E := Lib.hid (E.out.kept (below_undrew hb)))); (first | (have LY := Lib.hid (LY.out.below hb)) | (have LY := Lib.hid (LY.out.below (below_undrew hb)))); (try (first | (have SK := Lib.hid (SK.out.kept hb)) | (have SK := Lib.hid (SK.out.kept (below_undrew hb))))); have c0 := A.out.at 0 rfl; have c1 := A.out.at 1 rfl; have c2 := A.out.at 2 rfl; have c3 := A.out.at 3 rfl; have d0 := E.out.at 0 rfl; have d1 := E.out.at 1 rfl; have d2 := E.out.at 2 rfl; have SK := Lib.hid hc; have SV := Lib.hid hs; clear hc hs;  clear hb)
    | (go_at_call 63; refine (endCell_any r last _ HQ.out HP.out).mono ?_; rintro e w' ⟨rfl, hb⟩; (first | (have Bw := Lib.hid (below_step Bw.out hb)) | (have Bw := Lib.hid (below_step Bw.out (below_undrew hb)))); (first | (have A := Lib.hid (A.out.kept hb)) | (have A := Lib.hid (A.out.kept (below_undrew hb)))); (first | (have E := Lib.hid (E.out.kept hb)) | (have E := Lib.hid (E.out.kept (below_undrew hb)))); (first | (have LY := Lib.hid (LY.out.below hb)) | (have LY := Lib.hid (LY.out.below (below_undrew hb)))); (try (first | (have SK := Lib.hid (SK.out.kept hb)) | (have SK := Lib.hid (SK.out.kept (below_undrew hb))))); have c0 := A.out.at 0 rfl; have c1 := A.out.at 1 rfl; have c2 := A.out.at 2 rfl; have c3 := A.out.at 3 rfl; have d0 := E.out.at 0 rfl; have d1 := E.out.at 1 rfl; have d2 := E.out.at 2 rfl; clear hb)
    | (go_at_call 83; refine (implHalf_any r (eC n last) _ LY.out CB.out).mono ?_; rintro e w' ⟨hh, hx, rfl, hb⟩; have HH := Lib.hid hx; (first | (have Bw := Lib.hid (below_step Bw.out hb)) | (have Bw := Lib.hid (below_step Bw.out (below_undrew hb)))); (first | (have A := Lib.hid (A.out.kept hb)) | (have A := Lib.hid (A.out.kept (below_undrew hb)))); (first | (have E := Lib.hid (E.out.kept hb)) | (have E := Lib.hid (E.out.kept (below_undrew hb)))); (first | (have LY := Lib.hid (LY.out.below hb)) | (have LY := Lib.hid (LY.out.below (below_undrew hb)))); (try (first | (have SK := Lib.hid (SK.out.kept hb)) | (have SK := Lib.hid (SK.out.kept (below_undrew hb))))); have c0 := A.out.at 0 rfl; have c1 := A.out.at 1 rfl; have c2 := A.out.at 2 rfl; have c3 := A.out.at 3 rfl; have d0 := E.out.at 0 rfl; have d1 := E.out.at 1 rfl; have d2 := E.out.at 2 rfl; clear hb hx)
    | (go_at_call 105; refine (pass2_any _ _ _ _ SK.out).mono ?_; rintro e w' ⟨z, hz, rfl, m, rfl⟩; have Z := Lib.hid hz; clear hz)
    | (go_at_call 93; refine (implNum_any _ _).mono ?_; rintro e w' ⟨rfl, m2, rfl⟩))
  all_goals
    go_wp2
    go_ret2
    exact PY.out _ _ (by rw [Z.out, HH.out, SV.out]; rfl) (by first | exact below_drewN Bw.out _ | exact below_drewN (below_drewN Bw.out _) _)

end Go.Proofs.Ytkbdidpodcclfaa
