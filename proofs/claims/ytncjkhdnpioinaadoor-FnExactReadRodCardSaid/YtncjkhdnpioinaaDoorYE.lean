/- Several texts in one, for a claim holds 60 files at most: AppS LsS GiveS RodN Pof RodP RodA RtC RodT RodS RodW AndSh. -/
import Derived.Test.YtncjkhdnpioinaaDoorYC
import Derived.Test.YtncjkhdnpioinaaDoorYD
import Derived.Laws.OwnMore
import Derived.Laws.ResultCell
import Derived.Defers
import Derived.Recover
import Derived.HandedShaped
import Derived.Handed
import Derived.Shelf.Vars
import Derived.Lay

/- A slice of lists of numbers that a call makes itself, and appends to. -/
namespace Go.Proofs.YtncjkhdnpioinaaDoor
open Go.RowKit
set_option linter.unusedVariables false

theorem Tryd.rowOfS : (Tryd.prog.info? 39).map (fun i => (i.zero, i.size, i.bytes)) = some (some (.slice none 0 0), 1, 24) := by kernel_rfl
theorem infoS : ∃ i, Tryd.prog.info? 39 = some i ∧ i.zero = some (.slice none 0 0) ∧ i.size = 1 ∧ i.bytes = 24 := by
  have h := Tryd.rowOfS
  cases e : Tryd.prog.info? 39 with
  | none => rw [e] at h; simp at h
  | some i =>
    rw [e] at h
    simp only [Option.map_some, Option.some.injEq, Prod.mk.injEq] at h
    exact ⟨i, rfl, h.1, h.2.1, h.2.2⟩
/-- a slice of the call's own holds the values vs -/
def OwnS (w : World) (base : Nat) (v : Value) (vs : List Value) : Prop := w.ownsRow base 39 1 v vs.length vs
theorem OwnS.al {w : World} {base : Nat} {v : Value} {vs : List Value} (h : OwnS w base v vs) (o : Obj) : OwnS (w.alloc o) base v vs := World.ownsRow.alloc h o
theorem OwnS.kept {w w' : World} {base : Nat} {v : Value} {vs : List Value} (h : OwnS w base v vs) (hb : Below w.heap.size w w') : OwnS w' base v vs := by
  obtain ⟨h1, h2⟩ := h
  refine ⟨h1, ?_⟩
  rcases h2 with h2 | ⟨g, cap, cur, e, hg, hc, h3⟩
  · exact .inl h2
  · refine .inr ⟨g, cap, cur, e, hg, ?_, h3⟩
    have hlt : g < w.heap.size := (Array.getElem?_eq_some_iff.1 hc).1
    rw [hb.block g hlt]
    exact hc
theorem OwnS.empty (w : World) (base : Nat) (hb : base ≤ w.heap.size) : OwnS (w.alloc (.cells #[] 39)) base (.slice (some ⟨w.heap.size, 0, none⟩) 0 0) [] :=
  World.ownsRow_lit (w := w) (base := base) (e := 39) (size := 1) #[] 0 hb (by decide) rfl
theorem OwnS.openS {w : World} {base : Nat} {v : Value} {vs : List Value} (h : OwnS w base v vs) (hn : 1 ≤ vs.length) : ∃ g cap, v = .slice (some ⟨g, 0, none⟩) vs.length cap := by
  obtain ⟨h1, h2⟩ := h
  rcases h2 with ⟨_, h2⟩ | ⟨g, cap, cur, e, _⟩
  · omega
  · exact ⟨g, cap, e⟩
theorem OwnS.cellAt {w : World} {base g n cap : Nat} {vs : List Value} (h : OwnS w base (.slice (some ⟨g, 0, none⟩) n cap) vs) (i : Nat) (hi : i < vs.length) : w.cell? ⟨g, i, none⟩ = some (vs.getD i undef) := by
  have h0 := h
  obtain ⟨h1, h2⟩ := h
  rcases h2 with ⟨h2, _⟩ | ⟨g', cap', cur, e, hg, hc, h3⟩
  · cases h2
  · cases e
    rw [World.ownsRow.cellAt h0 i (by omega)]
    simp [hi, List.getD_eq_getElem?_getD]
theorem wpList_appS {ops : Array Oper} {rest : List Oper} {o : Oper} {a : Act} {Q : Exit → Act → World → Prop} {w : World} (hgd : o.guard = none) (s x : Operand)
    (ho : o.op = .call { callee := .builtin .append, args := #[s, x], argTypes := #[143, 143] })
    (base : Nat) (v : Value) (vs : List Value) (hs : a.eval s = v) (hown : OwnS w base v vs) (q c : Nat) (za : Option Addr) (zn zc : Nat) (hx : a.eval x = .slice (some ⟨q, 0, none⟩) 1 c) (hq : w.cell? ⟨q, 0, none⟩ = some (.slice za zn zc))
    (hk : vs.length ≤ 1048576) (hbase : base ≤ w.heap.size)
    (h : ∀ v' w', OwnS w' base v' (vs ++ [.slice za zn zc]) → Below base w w' → (∀ (b : Nat) (c : Array Value) f, w.heap[b]? = some (Obj.cells c 46 f) → w'.heap[b]? = w.heap[b]?) → wpList Tryd.prog ops Q rest (a.put o.dst v') w') : wpList Tryd.prog ops Q (o :: rest) a w := by
  obtain ⟨i, hi, hz, hsz, hby⟩ := infoS
  have hm : maxLen = 9223372036854775807 := rfl
  refine wpList_append_own w hgd s x _ ho base 39 i (.slice none 0 0) 1 24 Tryd.underlying143 hi hz hsz hby rfl (by decide) v vs.length vs hs hown ⟨q, 0, none⟩ 1 c [.slice za zn zc] hx rfl (fun j u hj => ?_) (fun u hu => ?_) (by omega) (by omega) hbase (fun v' w' h1 h2 _ => ?_)
  · cases j with
    | zero => simp at hj; subst hj; simpa [Addr.add] using hq
    | succ j => simp at hj
  · simp at hu; subst hu; rfl
  · refine h v' w' ?_ ((Below.refl base w).grown h2 hbase (fun k hk => (World.ownsRow.lt hown k hk).1)) ?_
    · unfold OwnS
      simpa using h1
    · intro b c f hb
      refine h2.block b (Array.getElem?_eq_some_iff.1 hb).1 ?_
      obtain ⟨_, h4⟩ := hown
      rcases h4 with ⟨rfl, _⟩ | ⟨g, cap, cur, rfl, _, hc, _⟩
      · simp [Value.ownBlock]
      · intro e
        have : b = g := by simpa [Value.ownBlock] using e
        subst this
        rw [hc] at hb
        simp at hb
theorem ORow.keepF {h : Nat} {w w' : World} {v : Value} {zs : List Nat} (H : ORow h w v zs) (hk : ∀ (b : Nat) (c : Array Value) f, w.heap[b]? = some (Obj.cells c 46 f) → w'.heap[b]? = w.heap[b]?) : ORow h w' v zs := by
  rcases H with H | ⟨g, o, c, rfl, hg, hr⟩
  · exact .inl H
  · obtain ⟨cs, hb, hc⟩ := hr
    exact .inr ⟨g, o, c, rfl, hg, cs, (hk g cs _ hb).trans hb, hc⟩
end Go.Proofs.YtncjkhdnpioinaaDoor

/- Lists of numbers of the first parts: the specification. -/
namespace Go.Proofs.YtncjkhdnpioinaaDoor
open Go.RowKit
set_option linter.unusedVariables false

abbrev zGet (zs : List ByteArray) (k : Nat) : ByteArray := zs.getD k ⟨#[]⟩
def lsOk (zs : List ByteArray) (N : Nat) : Bool := decide (∀ k, k < N → nlOk (zGet zs k) = true)
/-- lists of numbers, or none -/
def LsB (zs : List ByteArray) (N : Nat) (w : World) (e : Ending) (w' : World) : Prop :=
  (lsOk zs N = false ∧ e = .returned (.tuple #[.slice none 0 0, .bool false]) ∧ Below w.heap.size w w') ∨
  (lsOk zs N = true ∧ ∃ v vs, e = .returned (.tuple #[v, .bool true]) ∧ OwnS w' w.heap.size v vs ∧ vs.length = N ∧ (∀ k, k < N → ORow w.heap.size w' (vs.getD k undef) (nlL (zGet zs k))) ∧ Below w.heap.size w w')
theorem getD_snoc {vs : List Value} {x : Value} {k n : Nat} (hl : vs.length = n) (hk : k < n + 1) : (vs ++ [x]).getD k undef = if k = n then x else vs.getD k undef := by
  by_cases e : k = n
  · subst e
    rw [if_pos rfl, ← hl]
    simp [List.getD_eq_getElem?_getD]
  · rw [if_neg e]
    simp [List.getD_eq_getElem?_getD, List.getElem?_append_left (show k < vs.length by omega)]

set_option maxHeartbeats 3200000 in
set_option maxRecDepth 8000 in
theorem specLists_any (v : Value) (zs : List ByteArray) (N : Nat) (w : World) (hr : ZRow w v zs) (hN : N ≤ zs.length) (hN2 : N ≤ 1000) (hz : ∀ k, k < N → (zGet zs k).size ≤ 1048576) :
    Calls Tryd.prog 108 #[v, .int .i64 N] w (LsB zs N w) := by
  have HNo : Hid (∀ k, k < N → nlOk (zGet zs k) = false → ∀ w', Below w.heap.size w w' → LsB zs N w (.returned (.tuple #[.slice none 0 0, .bool false])) w') := Lib.hid (fun k hk h w' hb => .inl ⟨decide_eq_false (fun a => by rw [a k hk] at h; cases h), rfl, hb⟩)
  have HYes : Hid ((∀ k, k < N → nlOk (zGet zs k) = true) → ∀ v vs w', OwnS w' w.heap.size v vs → vs.length = N → (∀ k, k < N → ORow w.heap.size w' (vs.getD k undef) (nlL (zGet zs k))) → Below w.heap.size w w' → LsB zs N w (.returned (.tuple #[v, .bool true])) w') := Lib.hid (fun h v vs w' h1 h2 h3 h4 => .inr ⟨decide_eq_true h, v, vs, rfl, h1, h2, h3, h4⟩)
  have HV := Lib.hid (fun x w1 hx => specNlo_any x w1 hx)
  have HZ := Lib.hid hz
  have CL : Hid (∀ k, k < N → ∃ b off cap, v = .slice (some ⟨b, off, none⟩) zs.length cap ∧ w.cell? ⟨b, off + k, none⟩ = some (.string (zGet zs k))) := Lib.hid (fun k hk => by
    obtain ⟨b, off, cap, e, hc⟩ := hr.cells (by omega)
    exact ⟨b, off, cap, e, hc k (by omega)⟩)
  have Bw := Lib.hid (below_al1 w (.cells #[] 39))
  have O0 := Lib.hid (OwnS.empty w w.heap.size (Nat.le_refl _))
  have HNl := Lib.hid hN
  obtain ⟨a, cap, rfl⟩ := hr.shape
  obtain ⟨n, hn⟩ : ∃ n, zs.length = n := ⟨_, rfl⟩
  rw [hn] at CL ⊢
  have HNn := Lib.hid hn
  clear hr hz hN hn
  go_enter Tryd.func108, Tryd.ntmps108
  go_wp2
  go_loopw [6, 7, 8, 9] (fun out i x y wr => ∃ (v0 : Value) (k : Nat) (vs : List Value), out = v0 ∧ i = .int .i64 k ∧ k ≤ N ∧ Hid (vs.length = k) ∧ Hid (∀ j, j < k → nlOk (zGet zs j) = true) ∧ Hid (∀ j, j < k → ORow w.heap.size wr (vs.getD j undef) (nlL (zGet zs j))) ∧ Hid (OwnS wr w.heap.size v0 vs) ∧ Hid (Below w.heap.size w wr)) (fun _ i _ _ _ => N - (intOf i).toNat)
  case atStart => exact ⟨_, 0, [], rfl, rfl, Nat.zero_le _, Lib.hid rfl, Lib.hid (fun j h => by omega), Lib.hid (fun j h => by omega), O0, Bw⟩
  case round =>
    obtain ⟨v0, k, vs, rfl, rfl, hk, hl, ha, hrw, ho, hb⟩ := hrel
    by_cases hlt : k < N
    · obtain ⟨b, off, cc, e, hcell0⟩ := CL.out k hlt
      cases e
      have hcell := (hb.out.cell (p := ⟨b, off + k, none⟩) (cell_lt hcell0)).trans hcell0
      have hx := HZ.out k hlt
      have hkn : k < n := by have := HNl.out; have := HNn.out; omega
      have HX := Lib.hid (fun (x : ByteArray) (h : zGet zs k = x) => HV.out x wr (by rw [← h]; exact hx))
      have HF := Lib.hid (HNo.out k hlt)
      obtain ⟨x, hxx⟩ : ∃ x, zGet zs k = x := ⟨_, rfl⟩
      have HR := Lib.hid (HX.out x hxx)
      rw [hxx] at hcell HF
      have HXX := Lib.hid hxx
      unfold RnLo at HR
      obtain ⟨L, hL⟩ : ∃ L, nlL x = L := ⟨_, rfl⟩
      rw [hL] at HR
      have HLL := Lib.hid hL
      have hi0 : (0 : Int) ≤ (k : Int) := by omega
      have hi1 : (k : Int) < (n : Int) := by omega
      clear hcell0 hx hxx hL HX
      go_wp2_with fail
      refine HR.out.mono ?_
      rintro e w2 ⟨v2, rfl, hr2, hb2⟩
      have B2 := Lib.hid (below_step hb.out hb2)
      have O2 := Lib.hid (ho.out.kept hb2)
      have W2 := Lib.hid (fun j (hj : j < k) => (hrw.out j hj).kept hb2)
      have R2 := Lib.hid (hr2.mono hb.out.size)
      obtain ⟨a2, c2, rfl⟩ := hr2.shape
      clear hr2 hb2 hcell
      cases hok : nlOk x with
      | false =>
        have HRt := Lib.hid (HF.out hok w2 B2.out)
        clear hok
        go_wp2
        go_ret2
        exact HRt.out
      | true =>
        have OL := Lib.hid (O2.out.al (.cells #[.slice a2 L.length c2] 39))
        have B3 := Lib.hid (B2.out.alloc (B2.out.size) (.cells #[.slice a2 L.length c2] 39))
        have b3 := below_al1 w2 (.cells #[.slice a2 L.length c2] 39)
        have W3 := Lib.hid (fun j (hj : j < k) => (W2.out j hj).kept b3)
        have R3 := Lib.hid (R2.out.kept b3)
        have CS : Hid ((w2.alloc (.cells #[.slice a2 L.length c2] 39)).cell? ⟨w2.heap.size, 0, none⟩ = some (.slice a2 L.length c2)) := Lib.hid ((World.cell?_alloc_at _ _ _ _ (by simp)).trans rfl)
        have HA : Hid (∀ j, j < k + 1 → nlOk (zGet zs j) = true) := Lib.hid (fun j hj => by
          by_cases e : j = k
          · rw [e, HXX.out]; exact hok
          · exact ha.out j (by omega))
        have HLn : Hid (vs.length ≤ 1048576) := Lib.hid (by rw [hl.out]; omega)
        clear hok b3
        go_wp2_with (at_builtin; go_loud (refine wpList_appS rfl _ _ rfl w.heap.size _ vs rfl OL.out w2.heap.size 1 a2 L.length c2 rfl CS.out HLn.out (B3.out.size) ?_); intro v' w' hO' hB' hK')
        have B4 := Lib.hid (B3.out.trans hB')
        have O4 := Lib.hid hO'
        have W4 : Hid (∀ j, j < k + 1 → ORow w.heap.size w' ((vs ++ [Value.slice a2 L.length c2]).getD j undef) (nlL (zGet zs j))) := Lib.hid (fun j hj => by
          rw [getD_snoc hl.out hj]
          by_cases e : j = k
          · rw [if_pos e, e, HXX.out, HLL.out]; exact R3.out.keepF hK'
          · rw [if_neg e]; exact (W3.out j (by omega)).keepF hK')
        clear hO' hB' hK'
        go_wp2
        go_roundw
        case rel => exact ⟨_, k + 1, _, rfl, by go_num, by omega, Lib.hid (by rw [List.length_append, hl.out]; rfl), HA, W4, O4, B4⟩
        case measure => simp [intOf]; omega
    · have e : k = N := by omega
      have HRt := Lib.hid (HYes.out (fun j hj => ha.out j (by omega)) u6 vs wr ho.out (by rw [hl.out]; exact e) (fun j hj => hrw.out j (by omega)) hb.out)
      clear ha hrw
      go_wp2
      go_ret2
      exact HRt.out
end Go.Proofs.YtncjkhdnpioinaaDoor

/- A rod is handed on by the specification, if it is valid. -/
namespace Go.Proofs.YtncjkhdnpioinaaDoor
open Go.RowKit
set_option linter.unusedVariables false

def nilRd : Value := .agg #[.slice none 0 0, .slice none 0 0, .slice none 0 0, .slice none 0 0]
def ifR (b : Bool) (v : Value) : Value := bif b then v else nilRd
def GiveP (v : Value) (b : Bool) (w : World) (e : Ending) (w' : World) : Prop := e = .returned (.tuple #[ifR b v, .bool b]) ∧ Below w.heap.size w w'
theorem below_set4 {w w' : World} {B p : Nat} (h : Below B w w') (hp : B ≤ p) (x0 x1 x2 x3 : Value) : Below B w ((((w'.setCell ⟨p, 0, none⟩ x0).setCell ⟨p, 1, none⟩ x1).setCell ⟨p, 2, none⟩ x2).setCell ⟨p, 3, none⟩ x3) :=
  (((h.setCell (p := ⟨p, 0, none⟩) hp x0).setCell (p := ⟨p, 1, none⟩) hp x1).setCell (p := ⟨p, 2, none⟩) hp x2).setCell (p := ⟨p, 3, none⟩) hp x3
set_option maxHeartbeats 1600000 in
theorem specGive_any (a b c d : Value) (r : RL) (w : World) (h : RRow w a b c d r) : Calls Tryd.prog 109 #[.agg #[a, b, c, d]] w (GiveP (.agg #[a, b, c, d]) (vRod r) w) := by
  obtain ⟨a0, q0, rfl⟩ := h.W.shape
  obtain ⟨a1, q1, rfl⟩ := h.E.shape
  obtain ⟨a2, q2, rfl⟩ := h.H.shape
  obtain ⟨a3, q3, rfl⟩ := h.T.shape
  have H := Lib.hid (h.below (below_al2 w (.cells [.slice a0 r.W.length q0, .slice a1 r.E.length q1, .slice a2 r.H.length q2, .slice a3 r.T.length q3].toArray 41) (.cells [.slice none 0 0, .slice none 0 0, .slice none 0 0, .slice none 0 0].toArray 41)))
  have A := Lib.hid ((Cells.made w [.slice a0 r.W.length q0, .slice a1 r.E.length q1, .slice a2 r.H.length q2, .slice a3 r.T.length q3] 41).al (.cells [.slice none 0 0, .slice none 0 0, .slice none 0 0, .slice none 0 0].toArray 41))
  have R := Cells.made (w.alloc (.cells [.slice a0 r.W.length q0, .slice a1 r.E.length q1, .slice a2 r.H.length q2, .slice a3 r.T.length q3].toArray 41)) [.slice none 0 0, .slice none 0 0, .slice none 0 0, .slice none 0 0] 41
  rw [show (w.alloc (.cells [.slice a0 r.W.length q0, .slice a1 r.E.length q1, .slice a2 r.H.length q2, .slice a3 r.T.length q3].toArray 41)).heap.size = w.heap.size + 1 from by simp] at R
  have R := Lib.hid R
  have Bw := Lib.hid (below_al2 w (.cells [.slice a0 r.W.length q0, .slice a1 r.E.length q1, .slice a2 r.H.length q2, .slice a3 r.T.length q3].toArray 41) (.cells [.slice none 0 0, .slice none 0 0, .slice none 0 0, .slice none 0 0].toArray 41))
  have Z : Hid (w.heap.size ≤ ((w.alloc (.cells [.slice a0 r.W.length q0, .slice a1 r.E.length q1, .slice a2 r.H.length q2, .slice a3 r.T.length q3].toArray 41)).alloc (.cells [.slice none 0 0, .slice none 0 0, .slice none 0 0, .slice none 0 0].toArray 41)).heap.size) := Lib.hid (by simp; omega)
  clear h
  unfold GiveP ifR nilRd
  go_enter Tryd.func109, Tryd.ntmps109
  go_wp2_with fail
  generalize hW : ((w.alloc (.cells [.slice a0 r.W.length q0, .slice a1 r.E.length q1, .slice a2 r.H.length q2, .slice a3 r.T.length q3].toArray 41)).alloc (.cells [.slice none 0 0, .slice none 0 0, .slice none 0 0, .slice none 0 0].toArray 41)) = w2 at *
  clear hW
  cases hv : vRod r
  · have HV := Lib.hid hv
    refine (specIs_any _ _ _ _ r _ _ A.out H.out).mono ?_
    rw [hv]
    clear hv
    rintro _ _ ⟨rfl, m, rfl⟩
    have r0 := R.out.at 0 rfl; have r1 := R.out.at 1 rfl; have r2 := R.out.at 2 rfl; have r3 := R.out.at 3 rfl; have rf := R.out.fz
    go_wp2
    refine bodyPost_ret (v := .tuple #[.agg #[.slice none 0 0, .slice none 0 0, .slice none 0 0, .slice none 0 0], .bool false]) ?_ rfl ?_
    · rw [results_cell_tmp rfl]
      go_simp
    · exact ⟨by rw [HV.out]; rfl, below_set4 (below_drewN Bw.out m) (by omega) _ _ _ _⟩
  · have HV := Lib.hid hv
    refine (specIs_any _ _ _ _ r _ _ A.out H.out).mono ?_
    rw [hv]
    clear hv
    rintro _ _ ⟨rfl, m, rfl⟩
    have c0 := A.out.at 0 rfl; have c1 := A.out.at 1 rfl; have c2 := A.out.at 2 rfl; have c3 := A.out.at 3 rfl
    have r0 := R.out.at 0 rfl; have r1 := R.out.at 1 rfl; have r2 := R.out.at 2 rfl; have r3 := R.out.at 3 rfl; have rf := R.out.fz
    go_wp2
    refine bodyPost_ret (v := .tuple #[.agg #[.slice a0 r.W.length q0, .slice a1 r.E.length q1, .slice a2 r.H.length q2, .slice a3 r.T.length q3], .bool true]) ?_ rfl ?_
    · rw [results_cell_tmp rfl]
      go_simp
    · exact ⟨by rw [HV.out]; rfl, below_set4 (below_drewN Bw.out m) (by omega) _ _ _ _⟩

end Go.Proofs.YtncjkhdnpioinaaDoor

/- Rods read from a text: where the program's reader refuses. -/
namespace Go.Proofs.YtncjkhdnpioinaaDoor
open Go.RowKit
set_option linter.unusedVariables false

set_option maxHeartbeats 3200000 in
set_option maxRecDepth 10000 in
theorem rodR_no0 (p : Nat) (m : UInt8) (ps : List ByteArray) (c : Int) (w : World) (h : PrSt w p m ps c) (hM : Kp MaxP p w) (hc : -100 ≤ c) (hc2 : c ≤ 2000000)  (k0 : nlOk (hdP ps) = false) :
    Calls Tryd.prog 61 #[.pointer (some ⟨p, 0, none⟩)] w fun e w' => e = rfP ∧ Tur (Pt p) w w' := by
  have hp := h.lt
  have Q0 := Lib.hid (Cells.made w [.slice none 0 0, .slice none 0 0, .slice none 0 0, .slice none 0 0] 41)
  have B0 := below_al1 w (.cells [.slice none 0 0, .slice none 0 0, .slice none 0 0, .slice none 0 0].toArray 41)
  have T0 := Lib.hid (Tur.of_below (S := Pt p) B0)
  have P0 := Lib.hid (h.kept B0)
  have HM := Lib.hid hM
  have HPL := Lib.hid hp
  have hwa : (w.alloc (.cells [.slice none 0 0, .slice none 0 0, .slice none 0 0, .slice none 0 0].toArray 41)).heap.size = w.heap.size + 1 := by simp
  have HWA := Lib.hid hwa
  have N0 := Lib.hid (fun w1 (h1 : PrSt w1 p m ps (c)) hM => list_no p m ps (c) w1 h1 hM (by omega) (by omega) k0)
  clear h hM hp B0 hwa k0 
  go_enter Tryd.func61, Tryd.ntmps61
  go_wp2_with fail
  refine (N0.out _ P0.out (HM.out.step T0.out)).mono ?_
  rintro e w1 ⟨rfl, ht⟩
  exact ⟨rfl, rfl, T0.out.trans ht⟩
set_option maxHeartbeats 3200000 in
set_option maxRecDepth 10000 in
theorem rodR_no1 (p : Nat) (m : UInt8) (ps : List ByteArray) (c : Int) (w : World) (h : PrSt w p m ps c) (hM : Kp MaxP p w) (hc : -100 ≤ c) (hc2 : c ≤ 2000000) (k0 : nlOk (hdP ps) = true) (k1 : nlOk (hdP ps.tail) = false) :
    Calls Tryd.prog 61 #[.pointer (some ⟨p, 0, none⟩)] w fun e w' => e = rfP ∧ Tur (Pt p) w w' := by
  have hp := h.lt
  have Q0 := Lib.hid (Cells.made w [.slice none 0 0, .slice none 0 0, .slice none 0 0, .slice none 0 0] 41)
  have B0 := below_al1 w (.cells [.slice none 0 0, .slice none 0 0, .slice none 0 0, .slice none 0 0].toArray 41)
  have T0 := Lib.hid (Tur.of_below (S := Pt p) B0)
  have P0 := Lib.hid (h.kept B0)
  have HM := Lib.hid hM
  have HPL := Lib.hid hp
  have hwa : (w.alloc (.cells [.slice none 0 0, .slice none 0 0, .slice none 0 0, .slice none 0 0].toArray 41)).heap.size = w.heap.size + 1 := by simp
  have HWA := Lib.hid hwa
  have L0 := Lib.hid (fun w1 (h1 : PrSt w1 p m ps (c)) hM => list_yes p m ps (c) w1 h1 hM (by omega) (by omega) k0)
  have N1 := Lib.hid (fun w1 (h1 : PrSt w1 p m ps.tail (c - 1)) hM => list_no p m ps.tail (c - 1) w1 h1 hM (by omega) (by omega) k1)
  have ln0 := nlL_le (hdP ps)
  clear h hM hp B0 hwa k0 k1 ln0
  go_enter Tryd.func61, Tryd.ntmps61
  go_wp2_with fail
  refine (L0.out _ P0.out (HM.out.step T0.out)).mono ?_
  rintro e w1 ⟨v0, rfl, hr, hp, ht⟩
  have P1 := Lib.hid hp
  have T1 := Lib.hid (T0.out.trans ht)
  have Q1 := Lib.hid (ht.cells Q0.out (by intro e; have e' : w.heap.size = p := e; have := HPL.out; omega))
  have Z0 : Hid (w.heap.size + 1 ≤ w.heap.size + 1) := Lib.hid (Nat.le_refl _)
  have hr0 := OIn.of hr
  rw [HWA.out] at hr0
  have O0_0 := Lib.hid hr0
  have Z1 : Hid (w.heap.size + 1 ≤ w1.heap.size) := Lib.hid (by have := ht.size; rw [HWA.out] at this; exact this)
  clear hr0
  obtain ⟨a0, c0, rfl⟩ := hr.shape
  clear hr hp ht
  go_wp2_with fail
  refine (N1.out _ P1.out (HM.out.step T1.out)).mono ?_
  rintro e w2 ⟨rfl, ht⟩
  exact ⟨rfl, rfl, T1.out.trans ht⟩
set_option maxHeartbeats 3200000 in
set_option maxRecDepth 10000 in
theorem rodR_no2 (p : Nat) (m : UInt8) (ps : List ByteArray) (c : Int) (w : World) (h : PrSt w p m ps c) (hM : Kp MaxP p w) (hc : -100 ≤ c) (hc2 : c ≤ 2000000) (k0 : nlOk (hdP ps) = true) (k1 : nlOk (hdP ps.tail) = true) (k2 : nlOk (hdP ps.tail.tail) = false) :
    Calls Tryd.prog 61 #[.pointer (some ⟨p, 0, none⟩)] w fun e w' => e = rfP ∧ Tur (Pt p) w w' := by
  have hp := h.lt
  have Q0 := Lib.hid (Cells.made w [.slice none 0 0, .slice none 0 0, .slice none 0 0, .slice none 0 0] 41)
  have B0 := below_al1 w (.cells [.slice none 0 0, .slice none 0 0, .slice none 0 0, .slice none 0 0].toArray 41)
  have T0 := Lib.hid (Tur.of_below (S := Pt p) B0)
  have P0 := Lib.hid (h.kept B0)
  have HM := Lib.hid hM
  have HPL := Lib.hid hp
  have hwa : (w.alloc (.cells [.slice none 0 0, .slice none 0 0, .slice none 0 0, .slice none 0 0].toArray 41)).heap.size = w.heap.size + 1 := by simp
  have HWA := Lib.hid hwa
  have L0 := Lib.hid (fun w1 (h1 : PrSt w1 p m ps (c)) hM => list_yes p m ps (c) w1 h1 hM (by omega) (by omega) k0)
  have L1 := Lib.hid (fun w1 (h1 : PrSt w1 p m ps.tail (c - 1)) hM => list_yes p m ps.tail (c - 1) w1 h1 hM (by omega) (by omega) k1)
  have N2 := Lib.hid (fun w1 (h1 : PrSt w1 p m ps.tail.tail (c - 1 - 1)) hM => list_no p m ps.tail.tail (c - 1 - 1) w1 h1 hM (by omega) (by omega) k2)
  have ln0 := nlL_le (hdP ps)
  have ln1 := nlL_le (hdP ps.tail)
  clear h hM hp B0 hwa k0 k1 k2 ln0 ln1
  go_enter Tryd.func61, Tryd.ntmps61
  go_wp2_with fail
  refine (L0.out _ P0.out (HM.out.step T0.out)).mono ?_
  rintro e w1 ⟨v0, rfl, hr, hp, ht⟩
  have P1 := Lib.hid hp
  have T1 := Lib.hid (T0.out.trans ht)
  have Q1 := Lib.hid (ht.cells Q0.out (by intro e; have e' : w.heap.size = p := e; have := HPL.out; omega))
  have Z0 : Hid (w.heap.size + 1 ≤ w.heap.size + 1) := Lib.hid (Nat.le_refl _)
  have hr0 := OIn.of hr
  rw [HWA.out] at hr0
  have O0_0 := Lib.hid hr0
  have Z1 : Hid (w.heap.size + 1 ≤ w1.heap.size) := Lib.hid (by have := ht.size; rw [HWA.out] at this; exact this)
  clear hr0
  obtain ⟨a0, c0, rfl⟩ := hr.shape
  clear hr hp ht
  go_wp2_with fail
  refine (L1.out _ P1.out (HM.out.step T1.out)).mono ?_
  rintro e w2 ⟨v1, rfl, hr, hp, ht⟩
  have P2 := Lib.hid hp
  have T2 := Lib.hid (T1.out.trans ht)
  have Q2 := Lib.hid (ht.cells Q1.out (by intro e; have e' : w.heap.size = p := e; have := HPL.out; omega))
  have O1_1 := Lib.hid (OIn.of hr)
  have O0_1 := Lib.hid (O0_0.out.tur ht (fun j h1 h2 h3 => by have e : j = p := h3; have := HPL.out; have := Z0.out; omega))
  have Z2 : Hid (w.heap.size + 1 ≤ w2.heap.size) := Lib.hid (Nat.le_trans Z1.out ht.size)
  have U2 : Hid (w1.heap.size ≤ w2.heap.size) := Lib.hid ht.size
  obtain ⟨a1, c1, rfl⟩ := hr.shape
  clear hr hp ht
  go_wp2_with fail
  refine (N2.out _ P2.out (HM.out.step T2.out)).mono ?_
  rintro e w3 ⟨rfl, ht⟩
  exact ⟨rfl, rfl, T2.out.trans ht⟩
set_option maxHeartbeats 3200000 in
set_option maxRecDepth 10000 in
theorem rodR_no3 (p : Nat) (m : UInt8) (ps : List ByteArray) (c : Int) (w : World) (h : PrSt w p m ps c) (hM : Kp MaxP p w) (hc : -100 ≤ c) (hc2 : c ≤ 2000000) (k0 : nlOk (hdP ps) = true) (k1 : nlOk (hdP ps.tail) = true) (k2 : nlOk (hdP ps.tail.tail) = true) (k3 : nlOk (hdP ps.tail.tail.tail) = false) :
    Calls Tryd.prog 61 #[.pointer (some ⟨p, 0, none⟩)] w fun e w' => e = rfP ∧ Tur (Pt p) w w' := by
  have hp := h.lt
  have Q0 := Lib.hid (Cells.made w [.slice none 0 0, .slice none 0 0, .slice none 0 0, .slice none 0 0] 41)
  have B0 := below_al1 w (.cells [.slice none 0 0, .slice none 0 0, .slice none 0 0, .slice none 0 0].toArray 41)
  have T0 := Lib.hid (Tur.of_below (S := Pt p) B0)
  have P0 := Lib.hid (h.kept B0)
  have HM := Lib.hid hM
  have HPL := Lib.hid hp
  have hwa : (w.alloc (.cells [.slice none 0 0, .slice none 0 0, .slice none 0 0, .slice none 0 0].toArray 41)).heap.size = w.heap.size + 1 := by simp
  have HWA := Lib.hid hwa
  have L0 := Lib.hid (fun w1 (h1 : PrSt w1 p m ps (c)) hM => list_yes p m ps (c) w1 h1 hM (by omega) (by omega) k0)
  have L1 := Lib.hid (fun w1 (h1 : PrSt w1 p m ps.tail (c - 1)) hM => list_yes p m ps.tail (c - 1) w1 h1 hM (by omega) (by omega) k1)
  have L2 := Lib.hid (fun w1 (h1 : PrSt w1 p m ps.tail.tail (c - 1 - 1)) hM => list_yes p m ps.tail.tail (c - 1 - 1) w1 h1 hM (by omega) (by omega) k2)
  have N3 := Lib.hid (fun w1 (h1 : PrSt w1 p m ps.tail.tail.tail (c - 1 - 1 - 1)) hM => list_no p m ps.tail.tail.tail (c - 1 - 1 - 1) w1 h1 hM (by omega) (by omega) k3)
  have ln0 := nlL_le (hdP ps)
  have ln1 := nlL_le (hdP ps.tail)
  have ln2 := nlL_le (hdP ps.tail.tail)
  clear h hM hp B0 hwa k0 k1 k2 k3 ln0 ln1 ln2
  go_enter Tryd.func61, Tryd.ntmps61
  go_wp2_with fail
  refine (L0.out _ P0.out (HM.out.step T0.out)).mono ?_
  rintro e w1 ⟨v0, rfl, hr, hp, ht⟩
  have P1 := Lib.hid hp
  have T1 := Lib.hid (T0.out.trans ht)
  have Q1 := Lib.hid (ht.cells Q0.out (by intro e; have e' : w.heap.size = p := e; have := HPL.out; omega))
  have Z0 : Hid (w.heap.size + 1 ≤ w.heap.size + 1) := Lib.hid (Nat.le_refl _)
  have hr0 := OIn.of hr
  rw [HWA.out] at hr0
  have O0_0 := Lib.hid hr0
  have Z1 : Hid (w.heap.size + 1 ≤ w1.heap.size) := Lib.hid (by have := ht.size; rw [HWA.out] at this; exact this)
  clear hr0
  obtain ⟨a0, c0, rfl⟩ := hr.shape
  clear hr hp ht
  go_wp2_with fail
  refine (L1.out _ P1.out (HM.out.step T1.out)).mono ?_
  rintro e w2 ⟨v1, rfl, hr, hp, ht⟩
  have P2 := Lib.hid hp
  have T2 := Lib.hid (T1.out.trans ht)
  have Q2 := Lib.hid (ht.cells Q1.out (by intro e; have e' : w.heap.size = p := e; have := HPL.out; omega))
  have O1_1 := Lib.hid (OIn.of hr)
  have O0_1 := Lib.hid (O0_0.out.tur ht (fun j h1 h2 h3 => by have e : j = p := h3; have := HPL.out; have := Z0.out; omega))
  have Z2 : Hid (w.heap.size + 1 ≤ w2.heap.size) := Lib.hid (Nat.le_trans Z1.out ht.size)
  have U2 : Hid (w1.heap.size ≤ w2.heap.size) := Lib.hid ht.size
  obtain ⟨a1, c1, rfl⟩ := hr.shape
  clear hr hp ht
  go_wp2_with fail
  refine (L2.out _ P2.out (HM.out.step T2.out)).mono ?_
  rintro e w3 ⟨v2, rfl, hr, hp, ht⟩
  have P3 := Lib.hid hp
  have T3 := Lib.hid (T2.out.trans ht)
  have Q3 := Lib.hid (ht.cells Q2.out (by intro e; have e' : w.heap.size = p := e; have := HPL.out; omega))
  have O2_2 := Lib.hid (OIn.of hr)
  have O0_2 := Lib.hid (O0_1.out.tur ht (fun j h1 h2 h3 => by have e : j = p := h3; have := HPL.out; have := Z0.out; omega))
  have O1_2 := Lib.hid (O1_1.out.tur ht (fun j h1 h2 h3 => by have e : j = p := h3; have := HPL.out; have := Z1.out; omega))
  have Z3 : Hid (w.heap.size + 1 ≤ w3.heap.size) := Lib.hid (Nat.le_trans Z2.out ht.size)
  have U3 : Hid (w2.heap.size ≤ w3.heap.size) := Lib.hid ht.size
  obtain ⟨a2, c2, rfl⟩ := hr.shape
  clear hr hp ht
  go_wp2_with fail
  refine (N3.out _ P3.out (HM.out.step T3.out)).mono ?_
  rintro e w4 ⟨rfl, ht⟩
  exact ⟨rfl, rfl, T3.out.trans ht⟩
set_option maxHeartbeats 3200000 in
set_option maxRecDepth 10000 in
theorem rodR_bad (p : Nat) (m : UInt8) (ps : List ByteArray) (c : Int) (w : World) (h : PrSt w p m ps c) (hM : Kp MaxP p w) (hc : -100 ≤ c) (hc2 : c ≤ 2000000) (k0 : nlOk (hdP ps) = true) (k1 : nlOk (hdP ps.tail) = true) (k2 : nlOk (hdP ps.tail.tail) = true) (k3 : nlOk (hdP ps.tail.tail.tail) = true) (kv : vRod ⟨(nlL (hdP ps)), (nlL (hdP ps.tail)), (nlL (hdP ps.tail.tail)), (nlL (hdP ps.tail.tail.tail))⟩ = false) :
    Calls Tryd.prog 61 #[.pointer (some ⟨p, 0, none⟩)] w fun e w' => e = rfP ∧ Tur (Pt p) w w' := by
  have hp := h.lt
  have Q0 := Lib.hid (Cells.made w [.slice none 0 0, .slice none 0 0, .slice none 0 0, .slice none 0 0] 41)
  have B0 := below_al1 w (.cells [.slice none 0 0, .slice none 0 0, .slice none 0 0, .slice none 0 0].toArray 41)
  have T0 := Lib.hid (Tur.of_below (S := Pt p) B0)
  have P0 := Lib.hid (h.kept B0)
  have HM := Lib.hid hM
  have HPL := Lib.hid hp
  have hwa : (w.alloc (.cells [.slice none 0 0, .slice none 0 0, .slice none 0 0, .slice none 0 0].toArray 41)).heap.size = w.heap.size + 1 := by simp
  have HWA := Lib.hid hwa
  have L0 := Lib.hid (fun w1 (h1 : PrSt w1 p m ps (c)) hM => list_yes p m ps (c) w1 h1 hM (by omega) (by omega) k0)
  have L1 := Lib.hid (fun w1 (h1 : PrSt w1 p m ps.tail (c - 1)) hM => list_yes p m ps.tail (c - 1) w1 h1 hM (by omega) (by omega) k1)
  have L2 := Lib.hid (fun w1 (h1 : PrSt w1 p m ps.tail.tail (c - 1 - 1)) hM => list_yes p m ps.tail.tail (c - 1 - 1) w1 h1 hM (by omega) (by omega) k2)
  have L3 := Lib.hid (fun w1 (h1 : PrSt w1 p m ps.tail.tail.tail (c - 1 - 1 - 1)) hM => list_yes p m ps.tail.tail.tail (c - 1 - 1 - 1) w1 h1 hM (by omega) (by omega) k3)
  have ln0 := nlL_le (hdP ps)
  have ln1 := nlL_le (hdP ps.tail)
  have ln2 := nlL_le (hdP ps.tail.tail)
  have ln3 := nlL_le (hdP ps.tail.tail.tail)
  obtain ⟨Y0, hY0⟩ : ∃ Y, nlL (hdP ps) = Y := ⟨_, rfl⟩
  obtain ⟨Y1, hY1⟩ : ∃ Y, nlL (hdP ps.tail) = Y := ⟨_, rfl⟩
  obtain ⟨Y2, hY2⟩ : ∃ Y, nlL (hdP ps.tail.tail) = Y := ⟨_, rfl⟩
  obtain ⟨Y3, hY3⟩ : ∃ Y, nlL (hdP ps.tail.tail.tail) = Y := ⟨_, rfl⟩
  rw [hY0] at L0 ln0
  rw [hY1] at L1 ln1
  rw [hY2] at L2 ln2
  rw [hY3] at L3 ln3
  rw [hY0, hY1, hY2, hY3] at kv
  have SL : Hid (Y0.length + Y1.length + Y2.length + Y3.length ≤ 1024) := Lib.hid (by omega)
  have KV := Lib.hid kv
  clear h hM hp B0 hwa k0 k1 k2 k3 kv ln0 ln1 ln2 ln3 hY0 hY1 hY2 hY3
  go_enter Tryd.func61, Tryd.ntmps61
  go_wp2_with fail
  refine (L0.out _ P0.out (HM.out.step T0.out)).mono ?_
  rintro e w1 ⟨v0, rfl, hr, hp, ht⟩
  have P1 := Lib.hid hp
  have T1 := Lib.hid (T0.out.trans ht)
  have Q1 := Lib.hid (ht.cells Q0.out (by intro e; have e' : w.heap.size = p := e; have := HPL.out; omega))
  have Z0 : Hid (w.heap.size + 1 ≤ w.heap.size + 1) := Lib.hid (Nat.le_refl _)
  have hr0 := OIn.of hr
  rw [HWA.out] at hr0
  have O0_0 := Lib.hid hr0
  have Z1 : Hid (w.heap.size + 1 ≤ w1.heap.size) := Lib.hid (by have := ht.size; rw [HWA.out] at this; exact this)
  clear hr0
  obtain ⟨a0, c0, rfl⟩ := hr.shape
  clear hr hp ht
  go_wp2_with fail
  refine (L1.out _ P1.out (HM.out.step T1.out)).mono ?_
  rintro e w2 ⟨v1, rfl, hr, hp, ht⟩
  have P2 := Lib.hid hp
  have T2 := Lib.hid (T1.out.trans ht)
  have Q2 := Lib.hid (ht.cells Q1.out (by intro e; have e' : w.heap.size = p := e; have := HPL.out; omega))
  have O1_1 := Lib.hid (OIn.of hr)
  have O0_1 := Lib.hid (O0_0.out.tur ht (fun j h1 h2 h3 => by have e : j = p := h3; have := HPL.out; have := Z0.out; omega))
  have Z2 : Hid (w.heap.size + 1 ≤ w2.heap.size) := Lib.hid (Nat.le_trans Z1.out ht.size)
  have U2 : Hid (w1.heap.size ≤ w2.heap.size) := Lib.hid ht.size
  obtain ⟨a1, c1, rfl⟩ := hr.shape
  clear hr hp ht
  go_wp2_with fail
  refine (L2.out _ P2.out (HM.out.step T2.out)).mono ?_
  rintro e w3 ⟨v2, rfl, hr, hp, ht⟩
  have P3 := Lib.hid hp
  have T3 := Lib.hid (T2.out.trans ht)
  have Q3 := Lib.hid (ht.cells Q2.out (by intro e; have e' : w.heap.size = p := e; have := HPL.out; omega))
  have O2_2 := Lib.hid (OIn.of hr)
  have O0_2 := Lib.hid (O0_1.out.tur ht (fun j h1 h2 h3 => by have e : j = p := h3; have := HPL.out; have := Z0.out; omega))
  have O1_2 := Lib.hid (O1_1.out.tur ht (fun j h1 h2 h3 => by have e : j = p := h3; have := HPL.out; have := Z1.out; omega))
  have Z3 : Hid (w.heap.size + 1 ≤ w3.heap.size) := Lib.hid (Nat.le_trans Z2.out ht.size)
  have U3 : Hid (w2.heap.size ≤ w3.heap.size) := Lib.hid ht.size
  obtain ⟨a2, c2, rfl⟩ := hr.shape
  clear hr hp ht
  go_wp2_with fail
  refine (L3.out _ P3.out (HM.out.step T3.out)).mono ?_
  rintro e w4 ⟨v3, rfl, hr, hp, ht⟩
  have P4 := Lib.hid hp
  have T4 := Lib.hid (T3.out.trans ht)
  have Q4 := Lib.hid (ht.cells Q3.out (by intro e; have e' : w.heap.size = p := e; have := HPL.out; omega))
  have O3_3 := Lib.hid (OIn.of hr)
  have O0_3 := Lib.hid (O0_2.out.tur ht (fun j h1 h2 h3 => by have e : j = p := h3; have := HPL.out; have := Z0.out; omega))
  have O1_3 := Lib.hid (O1_2.out.tur ht (fun j h1 h2 h3 => by have e : j = p := h3; have := HPL.out; have := Z1.out; omega))
  have O2_3 := Lib.hid (O2_2.out.tur ht (fun j h1 h2 h3 => by have e : j = p := h3; have := HPL.out; have := Z2.out; omega))
  have Z4 : Hid (w.heap.size + 1 ≤ w4.heap.size) := Lib.hid (Nat.le_trans Z3.out ht.size)
  have U4 : Hid (w3.heap.size ≤ w4.heap.size) := Lib.hid ht.size
  obtain ⟨a3, c3, rfl⟩ := hr.shape
  clear hr hp ht
  have RO : Hid (RodO (w.heap.size + 1) w4 (.slice a0 Y0.length c0) (.slice a1 Y1.length c1) (.slice a2 Y2.length c2) (.slice a3 Y3.length c3) ⟨Y0, Y1, Y2, Y3⟩) := Lib.hid ⟨w.heap.size + 1, w1.heap.size, w2.heap.size, w3.heap.size, w4.heap.size, Nat.le_refl _, Z1.out, U2.out, U3.out, U4.out, Nat.le_refl _, O0_3.out, O1_3.out, O2_3.out, O3_3.out⟩
  clear O0_0 O0_1 O0_2 O0_3 O1_1 O1_2 O1_3 O2_2 O2_3 O3_3 L0 L1 L2 L3
  have EW : Hid (∀ w5, w5 = w4.alloc (.cells #[.slice a0 Y0.length c0, .slice a1 Y1.length c1, .slice a2 Y2.length c2, .slice a3 Y3.length c3] 41) → Cells w5 w4.heap.size [.slice a0 Y0.length c0, .slice a1 Y1.length c1, .slice a2 Y2.length c2, .slice a3 Y3.length c3] ∧ Cells w5 w.heap.size [.slice none 0 0, .slice none 0 0, .slice none 0 0, .slice none 0 0] ∧ PrSt w5 p m ps.tail.tail.tail.tail (c - 1 - 1 - 1 - 1) ∧ Tur (Pt p) w w5 ∧ RodO (w.heap.size + 1) w5 (.slice a0 Y0.length c0) (.slice a1 Y1.length c1) (.slice a2 Y2.length c2) (.slice a3 Y3.length c3) ⟨Y0, Y1, Y2, Y3⟩) := Lib.hid (fun w5 e => by
    have b := below_al1 w4 (.cells #[.slice a0 Y0.length c0, .slice a1 Y1.length c1, .slice a2 Y2.length c2, .slice a3 Y3.length c3] 41)
    rw [← e] at b
    refine ⟨?_, Q4.out.kept b, P4.out.kept b, T4.out.trans (Tur.of_below b), RO.out.kept b⟩
    rw [e]
    exact Cells.made w4 [.slice a0 Y0.length c0, .slice a1 Y1.length c1, .slice a2 Y2.length c2, .slice a3 Y3.length c3] 41)
  have hne : ¬ w4.heap.size = w.heap.size := by have := Z4.out; omega
  go_wp2
  obtain ⟨w5, hw5⟩ : ∃ w5, w5 = w4.alloc (.cells #[.slice a0 Y0.length c0, .slice a1 Y1.length c1, .slice a2 Y2.length c2, .slice a3 Y3.length c3] 41) := ⟨_, rfl⟩
  rw [← hw5]
  obtain ⟨hE, hQ, hP, hT, hR⟩ := EW.out w5 hw5
  have hrr := hR.rrow (by unfold RL.size; show Y0.length + Y1.length + Y2.length + Y3.length ≤ _; have := SL.out; omega)
  have IE := Lib.hid (fun w6 (hb : Below w5.heap.size w5 w6) => implValid_any _ _ _ _ _ w6 (hrr.below hb))
  rw [KV.out] at IE
  have Q := Lib.hid hQ
  have P5 := Lib.hid hP
  have T5 := Lib.hid hT
  have R5 := Lib.hid hR
  have FACT := Lib.hid (fun w6 (hw : Ext w5 w6) => And.intro (hw.cell (hE.at 0 rfl)) (And.intro (hw.cell (hE.at 1 rfl)) (And.intro (hw.cell (hE.at 2 rfl)) (hw.cell (hE.at 3 rfl)))))
  clear hE hQ hP hT hR hrr hw5 EW Q4 P4 T4 Q3 P3 T3 Q2 P2 T2 Q1 P1 T1 RO
  refine wp_region_facts_tail 3 [] (Ext w5) (TS [(15, fIs (.bool false))]) (Pers.ext _) (TS.pers _) (Ext.start _) (by kernel_rfl) (by kernel_rfl) (by intro d v c a w h; cases d <;> exact h) ?_
  simp only [List.take_succ_cons, List.take_zero, List.drop_succ_cons, List.drop_zero]
  repeat (refine wpF_val rfl monoQ_end (by rintro _ ⟨⟩; rfl) ?_ (fun w1 hw1 => ?_) (fun K hK => ?_); rotate_left; (focus (have hF := FACT.out w1 hw1; go_simp; first | done | rfl)); go_simp; refine hK _ ?_; clear hK K)
  refine wpF_callF rfl 15 rfl 64 #[.agg #[.slice a0 Y0.length c0, .slice a1 Y1.length c1, .slice a2 Y2.length c2, .slice a3 Y3.length c3]] (fIs (.bool false)) rfl (fun w6 => ?_) (fun w6 hC hN => ?_) (fun v1 hv1 => ?_)
  · go_simp
  · refine (IE.out w6 hC).mono ?_
    rintro _ w7 ⟨rfl, hb⟩
    exact ⟨_, rfl, hb, rfl⟩
  obtain ⟨_, rfl⟩ := hv1
  refine wpFacts_nil ?_
  intro w6 hb6 _
  have B6 := Lib.hid hb6
  clear hb6
  go_wp2_with (go_at_call 63; refine (needR_no _ _ _ _ _ _ _ _ _ _ _ _ _).mono ?_; rintro e w7 ⟨rfl, hb⟩; exact ⟨rfl, rfl, T5.out.trans (Tur.of_below (below_step B6.out hb))⟩)
def rOk (ps : List ByteArray) : Bool := nlOk (hdP ps) && (nlOk (hdP ps.tail) && (nlOk (hdP ps.tail.tail) && (nlOk (hdP ps.tail.tail.tail) && vRod ⟨(nlL (hdP ps)), (nlL (hdP ps.tail)), (nlL (hdP ps.tail.tail)), (nlL (hdP ps.tail.tail.tail))⟩)))
theorem rodR_no (p : Nat) (m : UInt8) (ps : List ByteArray) (c : Int) (w : World) (h : PrSt w p m ps c) (hM : Kp MaxP p w) (hc : -100 ≤ c) (hc2 : c ≤ 2000000) (hk : rOk ps = false) :
    Calls Tryd.prog 61 #[.pointer (some ⟨p, 0, none⟩)] w fun e w' => e = rfP ∧ Tur (Pt p) w w' := by
  unfold rOk at hk
  cases k0 : nlOk (hdP ps) with
  | false => exact rodR_no0 p m ps c w h hM hc hc2 k0
  | true =>
    cases k1 : nlOk (hdP ps.tail) with
    | false => exact rodR_no1 p m ps c w h hM hc hc2 k0 k1
    | true =>
      cases k2 : nlOk (hdP ps.tail.tail) with
      | false => exact rodR_no2 p m ps c w h hM hc hc2 k0 k1 k2
      | true =>
        cases k3 : nlOk (hdP ps.tail.tail.tail) with
        | false => exact rodR_no3 p m ps c w h hM hc hc2 k0 k1 k2 k3
        | true =>
          rw [k0, k1, k2, k3] at hk
          exact rodR_bad p m ps c w h hM hc hc2 k0 k1 k2 k3 (by simpa using hk)
end Go.Proofs.YtncjkhdnpioinaaDoor

/- The program's reader of parts: how it starts. -/
namespace Go.Proofs.YtncjkhdnpioinaaDoor
open Go.RowKit
set_option linter.unusedVariables false

theorem partsOf_any (t : ByteArray) (m : UInt8) (w : World) (ht : t.size ≤ 1048576) (hM : MaxP w) : Calls Tryd.prog 156 #[.string t, .string (mkZ m)] w fun e w' => e = .returned (.agg #[.string (mkZ m), .string t, .int .i64 ((cutZ m t).length : Nat)]) ∧ Below w.heap.size w w' := by
  obtain ⟨mm, hm⟩ := hM
  have B0 := below_al1 w (.cells #[.string ⟨#[]⟩, .string ⟨#[]⟩, .int .i64 0] 164)
  have HC := Lib.hid (fun w1 (hb : Below w.heap.size w w1) => Tryd.strings_Count_any t (mkZ m) mm w1 (by omega) ((hb.cell (p := ⟨2, 0, none⟩) (cell_lt hm)).trans hm) (Nat.le_refl 1))
  have hl := cutZ_length m t
  have hle := cutZ_le m t
  obtain ⟨k, hk⟩ : ∃ k, Lib.countB t (mkZ m) = k := ⟨_, rfl⟩
  rw [hk] at HC hl
  rw [hl] at hle ⊢
  have e1 : IntKind.i64.wrap ((k : Int) + 1) = (k : Int) + 1 := by unfold IntKind.wrap; simp [IntKind.bits, IntKind.signed]; omega
  have BB := Lib.hid B0
  clear hm hk hl B0
  go_enter Tryd.func156, Tryd.ntmps156
  go_wp2_with fail
  refine (HC.out _ BB.out).mono ?_
  rintro e w1 ⟨rfl, rfl⟩
  go_wp2
  refine bodyPost_ret (v := .agg #[.string (mkZ m), .string t, .int .i64 ((k + 1 : Nat) : Int)]) ?_ rfl ?_
  · rw [results_cell1 rfl]
    go_simp
  · exact ⟨rfl, (by repeat (first | exact Below.refl _ _ | refine Below.setCell ?_ (by first | exact Nat.le_refl _ | (simp; done) | (simp; omega) | omega) _ | refine below_drewN ?_ _ | refine Below.alloc ?_ (by first | exact Nat.le_refl _ | (simp; done) | (simp; omega) | omega) _))⟩
end Go.Proofs.YtncjkhdnpioinaaDoor

/- Rods read from a text: the parts read by the program. -/
namespace Go.Proofs.YtncjkhdnpioinaaDoor
open Go.RowKit
set_option linter.unusedVariables false

abbrev rL (ps : List ByteArray) : RL := ⟨nlL (hdP ps), nlL (hdP ps.tail), nlL (hdP ps.tail.tail), nlL (hdP ps.tail.tail.tail)⟩
theorem rodR_ok (p : Nat) (m : UInt8) (ps : List ByteArray) (c : Int) (w : World) (h : PrSt w p m ps c) (hM : Kp MaxP p w) (hc : -100 ≤ c) (hc2 : c ≤ 2000000) (hk : rOk ps = true) :
    Calls Tryd.prog 61 #[.pointer (some ⟨p, 0, none⟩)] w fun e w' => ∃ v0 v1 v2 v3, e = .returned (.agg #[v0, v1, v2, v3]) ∧ RodO w.heap.size w' v0 v1 v2 v3 (rL ps) ∧ PrSt w' p m ps.tail.tail.tail.tail (c - 1 - 1 - 1 - 1) ∧ Tur (Pt p) w w' := by
  unfold rOk at hk
  rw [Bool.and_eq_true, Bool.and_eq_true, Bool.and_eq_true, Bool.and_eq_true] at hk
  obtain ⟨k0, k1, k2, k3, k4⟩ := hk
  exact rodR_yes p m ps c w h hM hc hc2 k0 k1 k2 k3 k4
set_option maxHeartbeats 3200000 in
set_option maxRecDepth 10000 in
theorem rpR_yes (t : ByteArray) (m : UInt8) (w : World) (ht : t.size ≤ 1048576) (hM : MaxP w) (hk : rOk (cutZ m t) = true) (h2c : (cutZ m t).length = 4) :
    Calls Tryd.prog 112 #[.string t, .string (mkZ m), .func (.func 61) #[] #[]] w fun e w' => ∃ v0 v1 v2 v3, e = .returned (.agg #[v0, v1, v2, v3]) ∧ RodO w.heap.size w' v0 v1 v2 v3 (rL (cutZ m t)) ∧ Below w.heap.size w w' := by
  have B0 := below_al1 w (.cells #[.slice none 0 0, .slice none 0 0, .slice none 0 0, .slice none 0 0] 41)
  have Q0 := Lib.hid (Cells.made w [.slice none 0 0, .slice none 0 0, .slice none 0 0, .slice none 0 0] 41)
  have HP := Lib.hid (fun w1 hM => partsOf_any t m w1 ht hM)
  have HMb := Lib.hid (hM.below B0)
  have HM := Lib.hid hM
  have hle := cutZ_le m t
  have HR := Lib.hid (fun p w1 h a => rodR_ok p m (cutZ m t) ((cutZ m t).length : Nat) w1 h a (by omega) (by omega) hk)
  have HS := Lib.hid (fun w1 p (h : Cells w1 p [.string (mkZ m), .string t, .int .i64 ((cutZ m t).length : Nat)]) => PrSt.start h ht)
  have H2C := Lib.hid h2c
  have BB := Lib.hid B0
  obtain ⟨c, hc⟩ : ∃ c, (cutZ m t).length = c := ⟨_, rfl⟩
  obtain ⟨ps, hps⟩ : ∃ ps, cutZ m t = ps := ⟨_, rfl⟩
  obtain ⟨r, hr⟩ : ∃ r, rL (cutZ m t) = r := ⟨_, rfl⟩
  rw [hr] at HR ⊢
  rw [hc] at HP HR HS hle H2C
  rw [hps] at HR HS
  clear hM hk hc hps B0 h2c hr
  go_enter Tryd.func112, Tryd.ntmps112
  go_wp2_with fail
  refine (HP.out _ HMb.out).mono ?_
  rintro e w1 ⟨rfl, hb⟩
  have Q1 := Lib.hid (Q0.out.kept hb)
  have B1 := Lib.hid (below_step BB.out hb)
  have CP := Lib.hid (Cells.made w1 [.string (mkZ m), .string t, .int .i64 c] 164)
  have hWP : (w1.alloc (.cells [Value.string (mkZ m), .string t, .int .i64 c].toArray 164)).heap.size = w1.heap.size + 1 := by simp
  have WP := Lib.hid hWP
  have B2 := Lib.hid (below_step B1.out (below_al1 w1 (.cells [Value.string (mkZ m), .string t, .int .i64 c].toArray 164)))
  have Q2 := Lib.hid (Q1.out.al (.cells [Value.string (mkZ m), .string t, .int .i64 c].toArray 164))
  have hsz := B1.out.size
  have HMk := Lib.hid (Kp.of (fun _ _ h b => MaxP.below h b) HM.out B2.out hsz)
  have HRx := Lib.hid (HR.out w1.heap.size _ (HS.out _ _ CP.out) HMk.out)
  have hqp : w.heap.size < w1.heap.size := by have := Q1.out.lt; omega
  have HQP := Lib.hid hqp
  have FIN := Lib.hid (fun w2 (ht2 : Tur (Pt w1.heap.size) (w1.alloc (.cells [Value.string (mkZ m), .string t, .int .i64 c].toArray 164)) w2) => B2.out.trans (ht2.below (B := w.heap.size) (fun k hk => by have e : k = w1.heap.size := hk; omega) (by simp; omega)))
  clear hb hWP
  go_wp2_with fail
  refine HRx.out.mono ?_
  rintro e w2 ⟨v0, v1, v2, v3, rfl, hro, hp, ht2⟩
  rw [WP.out] at hro
  obtain ⟨rr, hC, _, _⟩ := hp
  have Q3 := Lib.hid (ht2.cells Q2.out (by intro e; have e' : w.heap.size = w1.heap.size := e; omega))
  have B3 := Lib.hid (FIN.out _ ht2)
  obtain ⟨⟨a0, c0, rfl⟩, ⟨a1, c1, rfl⟩, ⟨a2, c2, rfl⟩, ⟨a3, c3, rfl⟩⟩ := hro.shapes
  obtain ⟨n0, e0⟩ : ∃ n, r.W.length = n := ⟨_, rfl⟩
  obtain ⟨n1, e1⟩ : ∃ n, r.E.length = n := ⟨_, rfl⟩
  obtain ⟨n2, e2⟩ : ∃ n, r.H.length = n := ⟨_, rfl⟩
  obtain ⟨n3, e3⟩ : ∃ n, r.T.length = n := ⟨_, rfl⟩
  rw [e0, e1, e2, e3] at hro
  rw [e0, e1, e2, e3]
  have z2 := hC.at 2 rfl
  have zlt := hC.lt
  have zw : (w2.alloc (.cells #[.slice a0 n0 c0, .slice a1 n1 c1, .slice a2 n2 c2, .slice a3 n3 c3] 41)).cell? ⟨w1.heap.size, 2, none⟩ = some (.int .i64 (c - 1 - 1 - 1 - 1)) := ((below_al1 w2 _).cell (p := ⟨w1.heap.size, 2, none⟩) zlt).trans z2
  have B4 := Lib.hid (B3.out.trans ((below_al1 w2 (.cells #[.slice a0 n0 c0, .slice a1 n1 c1, .slice a2 n2 c2, .slice a3 n3 c3] 41)).mono B3.out.size))
  have Q4 := Lib.hid (Q3.out.al (.cells #[.slice a0 n0 c0, .slice a1 n1 c1, .slice a2 n2 c2, .slice a3 n3 c3] 41))
  have R4 := Lib.hid (hro.kept (below_al1 w2 (.cells #[.slice a0 n0 c0, .slice a1 n1 c1, .slice a2 n2 c2, .slice a3 n3 c3] 41)))
  clear ht2 hC hro e0 e1 e2 e3
  have q : ((c : Int) - 1 - 1 - 1 - 1 == 0) = true := by have := H2C.out; simp; omega
  go_wp2_with (go_at_call 63; refine (needR_yes _ _ _ _ _ _ _ _ _ _ _ _ _).mono ?_; rintro e w3 ⟨rfl, hb⟩; have B5 := Lib.hid (below_step B4.out hb); have R5 := Lib.hid (R4.out.kept hb); have hQ := Q4.out.kept hb; have q0 := hQ.at 0 rfl; have q1 := hQ.at 1 rfl; have q2 := hQ.at 2 rfl; have q3 := hQ.at 3 rfl; have qf := hQ.fz; clear hQ hb)
  have LTB : w.heap.size < w1.heap.size + 1 := by have := HQP.out; omega
  have HF := Lib.hid ((((B5.out.setCell (p := ⟨w.heap.size, 0, none⟩) (Nat.le_refl _) (.slice a0 n0 c0)).setCell (p := ⟨w.heap.size, 1, none⟩) (Nat.le_refl _) (.slice a1 n1 c1)).setCell (p := ⟨w.heap.size, 2, none⟩) (Nat.le_refl _) (.slice a2 n2 c2)).setCell (p := ⟨w.heap.size, 3, none⟩) (Nat.le_refl _) (.slice a3 n3 c3))
  have HG := Lib.hid ((((R5.out.far (p := w.heap.size) (Tur.of_onl ((Onl.refl (w.heap.size) _).setCell 0 (.slice a0 n0 c0)) rfl) LTB).far (p := w.heap.size) (Tur.of_onl ((Onl.refl (w.heap.size) _).setCell 1 (.slice a1 n1 c1)) rfl) LTB).far (p := w.heap.size) (Tur.of_onl ((Onl.refl (w.heap.size) _).setCell 2 (.slice a2 n2 c2)) rfl) LTB).far (p := w.heap.size) (Tur.of_onl ((Onl.refl (w.heap.size) _).setCell 3 (.slice a3 n3 c3)) rfl) LTB)
  refine bodyPost_ret (v := .agg #[.slice a0 n0 c0, .slice a1 n1 c1, .slice a2 n2 c2, .slice a3 n3 c3]) ?_ rfl ?_
  · rw [results_cell1 rfl]
    go_simp
  · exact ⟨_, _, _, _, rfl, HG.out.mono (by omega), HF.out⟩
set_option maxHeartbeats 3200000 in
set_option maxRecDepth 10000 in
theorem rpR_len (t : ByteArray) (m : UInt8) (w : World) (ht : t.size ≤ 1048576) (hM : MaxP w) (hk : rOk (cutZ m t) = true) (h2c : ¬ (cutZ m t).length = 4) :
    Calls Tryd.prog 112 #[.string t, .string (mkZ m), .func (.func 61) #[] #[]] w fun e w' => e = rfP ∧ Below w.heap.size w w' := by
  have B0 := below_al1 w (.cells #[.slice none 0 0, .slice none 0 0, .slice none 0 0, .slice none 0 0] 41)
  have Q0 := Lib.hid (Cells.made w [.slice none 0 0, .slice none 0 0, .slice none 0 0, .slice none 0 0] 41)
  have HP := Lib.hid (fun w1 hM => partsOf_any t m w1 ht hM)
  have HMb := Lib.hid (hM.below B0)
  have HM := Lib.hid hM
  have hle := cutZ_le m t
  have HR := Lib.hid (fun p w1 h a => rodR_ok p m (cutZ m t) ((cutZ m t).length : Nat) w1 h a (by omega) (by omega) hk)
  have HS := Lib.hid (fun w1 p (h : Cells w1 p [.string (mkZ m), .string t, .int .i64 ((cutZ m t).length : Nat)]) => PrSt.start h ht)
  have H2C := Lib.hid h2c
  have BB := Lib.hid B0
  obtain ⟨c, hc⟩ : ∃ c, (cutZ m t).length = c := ⟨_, rfl⟩
  obtain ⟨ps, hps⟩ : ∃ ps, cutZ m t = ps := ⟨_, rfl⟩
  obtain ⟨r, hr⟩ : ∃ r, rL (cutZ m t) = r := ⟨_, rfl⟩
  rw [hr] at HR
  rw [hc] at HP HR HS hle H2C
  rw [hps] at HR HS
  clear hM hk hc hps B0 h2c hr
  go_enter Tryd.func112, Tryd.ntmps112
  go_wp2_with fail
  refine (HP.out _ HMb.out).mono ?_
  rintro e w1 ⟨rfl, hb⟩
  have Q1 := Lib.hid (Q0.out.kept hb)
  have B1 := Lib.hid (below_step BB.out hb)
  have CP := Lib.hid (Cells.made w1 [.string (mkZ m), .string t, .int .i64 c] 164)
  have hWP : (w1.alloc (.cells [Value.string (mkZ m), .string t, .int .i64 c].toArray 164)).heap.size = w1.heap.size + 1 := by simp
  have WP := Lib.hid hWP
  have B2 := Lib.hid (below_step B1.out (below_al1 w1 (.cells [Value.string (mkZ m), .string t, .int .i64 c].toArray 164)))
  have Q2 := Lib.hid (Q1.out.al (.cells [Value.string (mkZ m), .string t, .int .i64 c].toArray 164))
  have hsz := B1.out.size
  have HMk := Lib.hid (Kp.of (fun _ _ h b => MaxP.below h b) HM.out B2.out hsz)
  have HRx := Lib.hid (HR.out w1.heap.size _ (HS.out _ _ CP.out) HMk.out)
  have hqp : w.heap.size < w1.heap.size := by have := Q1.out.lt; omega
  have HQP := Lib.hid hqp
  have FIN := Lib.hid (fun w2 (ht2 : Tur (Pt w1.heap.size) (w1.alloc (.cells [Value.string (mkZ m), .string t, .int .i64 c].toArray 164)) w2) => B2.out.trans (ht2.below (B := w.heap.size) (fun k hk => by have e : k = w1.heap.size := hk; omega) (by simp; omega)))
  clear hb hWP
  go_wp2_with fail
  refine HRx.out.mono ?_
  rintro e w2 ⟨v0, v1, v2, v3, rfl, hro, hp, ht2⟩
  rw [WP.out] at hro
  obtain ⟨rr, hC, _, _⟩ := hp
  have Q3 := Lib.hid (ht2.cells Q2.out (by intro e; have e' : w.heap.size = w1.heap.size := e; omega))
  have B3 := Lib.hid (FIN.out _ ht2)
  obtain ⟨⟨a0, c0, rfl⟩, ⟨a1, c1, rfl⟩, ⟨a2, c2, rfl⟩, ⟨a3, c3, rfl⟩⟩ := hro.shapes
  obtain ⟨n0, e0⟩ : ∃ n, r.W.length = n := ⟨_, rfl⟩
  obtain ⟨n1, e1⟩ : ∃ n, r.E.length = n := ⟨_, rfl⟩
  obtain ⟨n2, e2⟩ : ∃ n, r.H.length = n := ⟨_, rfl⟩
  obtain ⟨n3, e3⟩ : ∃ n, r.T.length = n := ⟨_, rfl⟩
  rw [e0, e1, e2, e3] at hro
  rw [e0, e1, e2, e3]
  have z2 := hC.at 2 rfl
  have zlt := hC.lt
  have zw : (w2.alloc (.cells #[.slice a0 n0 c0, .slice a1 n1 c1, .slice a2 n2 c2, .slice a3 n3 c3] 41)).cell? ⟨w1.heap.size, 2, none⟩ = some (.int .i64 (c - 1 - 1 - 1 - 1)) := ((below_al1 w2 _).cell (p := ⟨w1.heap.size, 2, none⟩) zlt).trans z2
  have B4 := Lib.hid (B3.out.trans ((below_al1 w2 (.cells #[.slice a0 n0 c0, .slice a1 n1 c1, .slice a2 n2 c2, .slice a3 n3 c3] 41)).mono B3.out.size))
  have Q4 := Lib.hid (Q3.out.al (.cells #[.slice a0 n0 c0, .slice a1 n1 c1, .slice a2 n2 c2, .slice a3 n3 c3] 41))
  have R4 := Lib.hid (hro.kept (below_al1 w2 (.cells #[.slice a0 n0 c0, .slice a1 n1 c1, .slice a2 n2 c2, .slice a3 n3 c3] 41)))
  clear ht2 hC hro e0 e1 e2 e3
  have q : ((c : Int) - 1 - 1 - 1 - 1 == 0) = false := by have := H2C.out; simp; omega
  go_wp2_with (go_at_call 63; refine (needR_no _ _ _ _ _ _ _ _ _ _ _ _ _).mono ?_; rintro e w3 ⟨rfl, hb⟩; exact ⟨rfl, rfl, below_step B4.out hb⟩)
set_option maxHeartbeats 3200000 in
set_option maxRecDepth 10000 in
theorem rpR_no (t : ByteArray) (m : UInt8) (w : World) (ht : t.size ≤ 1048576) (hM : MaxP w) (hk : rOk (cutZ m t) = false) :
    Calls Tryd.prog 112 #[.string t, .string (mkZ m), .func (.func 61) #[] #[]] w fun e w' => e = rfP ∧ Below w.heap.size w w' := by
  have B0 := below_al1 w (.cells #[.slice none 0 0, .slice none 0 0, .slice none 0 0, .slice none 0 0] 41)
  have Q0 := Lib.hid (Cells.made w [.slice none 0 0, .slice none 0 0, .slice none 0 0, .slice none 0 0] 41)
  have HP := Lib.hid (fun w1 hM => partsOf_any t m w1 ht hM)
  have HMb := Lib.hid (hM.below B0)
  have HM := Lib.hid hM
  have hle := cutZ_le m t
  have HR := Lib.hid (fun p w1 h a => rodR_no p m (cutZ m t) ((cutZ m t).length : Nat) w1 h a (by omega) (by omega) hk)
  have HS := Lib.hid (fun w1 p (h : Cells w1 p [.string (mkZ m), .string t, .int .i64 ((cutZ m t).length : Nat)]) => PrSt.start h ht)
  have BB := Lib.hid B0
  obtain ⟨c, hc⟩ : ∃ c, (cutZ m t).length = c := ⟨_, rfl⟩
  obtain ⟨ps, hps⟩ : ∃ ps, cutZ m t = ps := ⟨_, rfl⟩
  rw [hc] at HP HR HS hle
  rw [hps] at HR HS
  clear hM hk hc hps B0
  go_enter Tryd.func112, Tryd.ntmps112
  go_wp2_with fail
  refine (HP.out _ HMb.out).mono ?_
  rintro e w1 ⟨rfl, hb⟩
  have Q1 := Lib.hid (Q0.out.kept hb)
  have B1 := Lib.hid (below_step BB.out hb)
  have CP := Lib.hid (Cells.made w1 [.string (mkZ m), .string t, .int .i64 c] 164)
  have hWP : (w1.alloc (.cells [Value.string (mkZ m), .string t, .int .i64 c].toArray 164)).heap.size = w1.heap.size + 1 := by simp
  have WP := Lib.hid hWP
  have B2 := Lib.hid (below_step B1.out (below_al1 w1 (.cells [Value.string (mkZ m), .string t, .int .i64 c].toArray 164)))
  have Q2 := Lib.hid (Q1.out.al (.cells [Value.string (mkZ m), .string t, .int .i64 c].toArray 164))
  have hsz := B1.out.size
  have HMk := Lib.hid (Kp.of (fun _ _ h b => MaxP.below h b) HM.out B2.out hsz)
  have HRx := Lib.hid (HR.out w1.heap.size _ (HS.out _ _ CP.out) HMk.out)
  have hqp : w.heap.size < w1.heap.size := by have := Q1.out.lt; omega
  have HQP := Lib.hid hqp
  have FIN := Lib.hid (fun w2 (ht2 : Tur (Pt w1.heap.size) (w1.alloc (.cells [Value.string (mkZ m), .string t, .int .i64 c].toArray 164)) w2) => B2.out.trans (ht2.below (B := w.heap.size) (fun k hk => by have e : k = w1.heap.size := hk; omega) (by simp; omega)))
  clear hb hWP
  go_wp2_with fail
  refine HRx.out.mono ?_
  rintro e w2 ⟨rfl, ht2⟩
  exact ⟨rfl, rfl, FIN.out _ ht2⟩
end Go.Proofs.YtncjkhdnpioinaaDoor

/- Rods read from a text: refusals that are caught. -/
namespace Go.Proofs.YtncjkhdnpioinaaDoor
open Go.RowKit
set_option linter.unusedVariables false

theorem as_rfR (w : World) : (Instr.typeAssert rfV 20 73 true).run Tryd.prog w = .ok (.tuple #[rfV, .bool true]) w := by kernel_rfl
theorem as_nilR (w : World) : (Instr.typeAssert .nilIface 20 73 true).run Tryd.prog w = .ok (.tuple #[.nilIface, .bool false]) w := by kernel_rfl
set_option maxRecDepth 8000 in
theorem catchR_panic (b : Nat) (older : List PanicEntry) (w : World) (hc : w.cell? ⟨b, 0, none⟩ = some .nilIface) (hz : w.frozen? ⟨b, 0, none⟩ = false) :
    CallsD Tryd.prog 155 #[.pointer (some ⟨b, 0, none⟩)] (.panicking ({ v := rfV, recovered := false } :: older)) w fun e u' w' =>
      e = .returned (.tuple #[]) ∧ u' = .panicking ({ v := rfV, recovered := true } :: older) ∧ w' = w.setCell ⟨b, 0, none⟩ rfV := by
  refine callsD_of_wpS Tryd.func155 rfl fun c₀ cs hu => ?_
  apply wpS_seq
  apply wpS_region
  simp [wpOpsS, go_sem, recoverD, hu, Tryd.ntmps155, Exit.thenS, as_rfR]
  apply wpS_seq
  apply wpS_region
  simp [wpOpsS, go_sem, Exit.thenS]
  refine wpS_cond (t := true) (by simp [Act.eval, Array.replicate]) ?_
  simp only [if_true]
  apply wpS_region
  simp [wpOpsS, go_sem, hc, hz, bodyPostS, results, Tryd.results155]
set_option maxRecDepth 8000 in
theorem catchR_idle (b : Nat) (w : World) :
    CallsD Tryd.prog 155 #[.pointer (some ⟨b, 0, none⟩)] .returning w fun e u' w' => e = .returned (.tuple #[]) ∧ u' = .returning ∧ w' = w := by
  refine callsD_of_wpS Tryd.func155 rfl fun c₀ cs hu => ?_
  apply wpS_seq
  apply wpS_region
  simp [wpOpsS, go_sem, recoverD, hu, Tryd.ntmps155, Exit.thenS, as_nilR]
  apply wpS_seq
  apply wpS_region
  simp [wpOpsS, go_sem, Exit.thenS]
  refine wpS_cond (t := false) (by simp [Act.eval, Array.replicate]) ?_
  simp only [Bool.false_eq_true, if_false]
  refine wpS_of_wp (wp_skip ?_)
  cases c₀
  simp_all [bodyPostS, results, Tryd.results155]
end Go.Proofs.YtncjkhdnpioinaaDoor

/- The variables that a reading closure captures. -/
namespace Go.Proofs.YtncjkhdnpioinaaDoor
open Go.RowKit
set_option linter.unusedVariables false

theorem results_cell2 {fn : Func} {p q : Tmp} {ty ty' : TypeId} (h : fn.results = #[.cell p ty, .cell q ty']) (tmps : Array Value) (P : Program) (w : World) :
    (results fn tmps).run P w = ((asAddr (tmps.getD p undef)).run P w).andThen fun a w₁ => ((loadVar ty a).run P w₁).andThen fun v w₂ => ((asAddr (tmps.getD q undef)).run P w₂).andThen fun b w₃ => ((loadVar ty' b).run P w₃).andThen fun u w₄ => .ok (.tuple #[v, u]) w₄ := by
  simp only [results, h]
  simp [Sem.run_bind, Result.andThen]
structure RtC (w : World) (a b c : Nat) (m : UInt8) (t : ByteArray) (f : Value) : Prop where
  t : w.cell? ⟨a, 0, none⟩ = some (.string t)
  m : w.cell? ⟨b, 0, none⟩ = some (.string (mkZ m))
  f : w.cell? ⟨c, 0, none⟩ = some f
theorem RtC.kept {w w' : World} {a b c : Nat} {m : UInt8} {t : ByteArray} {f : Value} (h : RtC w a b c m t f) (hb : Below w.heap.size w w') : RtC w' a b c m t f :=
  ⟨(hb.cell (p := ⟨a, 0, none⟩) (cell_lt h.t)).trans h.t, (hb.cell (p := ⟨b, 0, none⟩) (cell_lt h.m)).trans h.m, (hb.cell (p := ⟨c, 0, none⟩) (cell_lt h.f)).trans h.f⟩
end Go.Proofs.YtncjkhdnpioinaaDoor

/- Rods read from a text: the program. -/
namespace Go.Proofs.YtncjkhdnpioinaaDoor
open Go.RowKit
set_option linter.unusedVariables false

abbrev rdFnR (a b c : Nat) : Value := .func (.func 111) #[] #[.pointer (some ⟨a, 0, none⟩), .pointer (some ⟨b, 0, none⟩), .pointer (some ⟨c, 0, none⟩)]
def rrOk (t : ByteArray) : Bool := rOk (cutZ 59 t) && decide ((cutZ 59 t).length = 4)
abbrev RrY (t : ByteArray) (h : Nat) (w : World) (w' : World) (v0 v1 v2 v3 : Value) : Prop := RodO h w' v0 v1 v2 v3 (rL (cutZ 59 t)) ∧ Below h w w'
theorem rpr_yes (t : ByteArray) (w : World) (ht : t.size ≤ 1048576) (hM : MaxP w) (hk : rrOk t = true) :
    Calls Tryd.prog 112 #[.string t, .string (mkZ 59), .func (.func 61) #[] #[]] w fun e w' => ∃ v0 v1 v2 v3, e = .returned (.agg #[v0, v1, v2, v3]) ∧ RodO w.heap.size w' v0 v1 v2 v3 (rL (cutZ 59 t)) ∧ Below w.heap.size w w' := by
  unfold rrOk at hk
  rw [Bool.and_eq_true, decide_eq_true_eq] at hk
  exact rpR_yes t 59 w ht hM hk.1 hk.2
theorem rpr_no (t : ByteArray) (w : World) (ht : t.size ≤ 1048576) (hM : MaxP w) (hk : rrOk t = false) :
    Calls Tryd.prog 112 #[.string t, .string (mkZ 59), .func (.func 61) #[] #[]] w fun e w' => e = rfP ∧ Below w.heap.size w w' := by
  cases h : rOk (cutZ 59 t) with
  | false => exact rpR_no t 59 w ht hM h
  | true =>
    refine rpR_len t 59 w ht hM h (fun e => ?_)
    unfold rrOk at hk
    rw [h, decide_eq_true e] at hk
    cases hk
set_option maxHeartbeats 1600000 in
theorem rt1R_yes (t : ByteArray) (a b c : Nat) (w : World) (hC : RtC w a b c 59 t (.func (.func 61) #[] #[])) (ht : t.size ≤ 1048576) (hM : MaxP w) (hk : rrOk t = true) :
    Calls Tryd.prog 111 #[.pointer (some ⟨a, 0, none⟩), .pointer (some ⟨b, 0, none⟩), .pointer (some ⟨c, 0, none⟩)] w fun e w' => ∃ v0 v1 v2 v3, e = .returned (.agg #[v0, v1, v2, v3]) ∧ RodO w.heap.size w' v0 v1 v2 v3 (rL (cutZ 59 t)) ∧ Below w.heap.size w w' := by
  have B0 := below_al1 w (.cells #[.slice none 0 0, .slice none 0 0, .slice none 0 0, .slice none 0 0] 41)
  have Q0 := Lib.hid (Cells.made w [.slice none 0 0, .slice none 0 0, .slice none 0 0, .slice none 0 0] 41)
  have HR := Lib.hid (rpr_yes t _ ht (hM.below B0) hk)
  have hWA : (w.alloc (.cells #[.slice none 0 0, .slice none 0 0, .slice none 0 0, .slice none 0 0] 41)).heap.size = w.heap.size + 1 := by simp
  rw [hWA] at HR
  have WA := Lib.hid hWA
  obtain ⟨z0, z1, z2⟩ := hC.kept B0
  have BB := Lib.hid B0
  obtain ⟨r, hr⟩ : ∃ r, rL (cutZ 59 t) = r := ⟨_, rfl⟩
  rw [hr] at HR ⊢
  clear hC hM hk B0 hWA hr
  go_enter Tryd.func111, Tryd.ntmps111
  go_wp2_with fail
  refine HR.out.mono ?_
  rintro e w3 ⟨v0, v1, v2, v3, rfl, hro, hb⟩
  rw [← WA.out] at hb
  have B5 := Lib.hid (below_step BB.out hb)
  have hQ := Q0.out.kept hb
  have q0 := hQ.at 0 rfl; have q1 := hQ.at 1 rfl; have q2 := hQ.at 2 rfl; have q3 := hQ.at 3 rfl; have qf := hQ.fz
  obtain ⟨⟨a0, c0, rfl⟩, ⟨a1, c1, rfl⟩, ⟨a2, c2, rfl⟩, ⟨a3, c3, rfl⟩⟩ := hro.shapes
  obtain ⟨n0, e0⟩ : ∃ n, r.W.length = n := ⟨_, rfl⟩
  obtain ⟨n1, e1⟩ : ∃ n, r.E.length = n := ⟨_, rfl⟩
  obtain ⟨n2, e2⟩ : ∃ n, r.H.length = n := ⟨_, rfl⟩
  obtain ⟨n3, e3⟩ : ∃ n, r.T.length = n := ⟨_, rfl⟩
  rw [e0, e1, e2, e3] at hro
  rw [e0, e1, e2, e3]
  have R5 := Lib.hid hro
  clear hQ hb hro e0 e1 e2 e3
  go_wp2
  have LTB : w.heap.size < w.heap.size + 1 := Nat.lt_succ_self _
  have HF := Lib.hid ((((B5.out.setCell (p := ⟨w.heap.size, 0, none⟩) (Nat.le_refl _) (.slice a0 n0 c0)).setCell (p := ⟨w.heap.size, 1, none⟩) (Nat.le_refl _) (.slice a1 n1 c1)).setCell (p := ⟨w.heap.size, 2, none⟩) (Nat.le_refl _) (.slice a2 n2 c2)).setCell (p := ⟨w.heap.size, 3, none⟩) (Nat.le_refl _) (.slice a3 n3 c3))
  have HG := Lib.hid ((((R5.out.far (p := w.heap.size) (Tur.of_onl ((Onl.refl (w.heap.size) _).setCell 0 (.slice a0 n0 c0)) rfl) LTB).far (p := w.heap.size) (Tur.of_onl ((Onl.refl (w.heap.size) _).setCell 1 (.slice a1 n1 c1)) rfl) LTB).far (p := w.heap.size) (Tur.of_onl ((Onl.refl (w.heap.size) _).setCell 2 (.slice a2 n2 c2)) rfl) LTB).far (p := w.heap.size) (Tur.of_onl ((Onl.refl (w.heap.size) _).setCell 3 (.slice a3 n3 c3)) rfl) LTB)
  refine bodyPost_ret (v := .agg #[.slice a0 n0 c0, .slice a1 n1 c1, .slice a2 n2 c2, .slice a3 n3 c3]) ?_ rfl ?_
  · rw [results_cell1 rfl]
    go_simp
  · exact ⟨_, _, _, _, rfl, HG.out.mono (Nat.le_succ _), HF.out⟩
set_option maxHeartbeats 1600000 in
theorem rt1R_no (t : ByteArray) (a b c : Nat) (w : World) (hC : RtC w a b c 59 t (.func (.func 61) #[] #[])) (ht : t.size ≤ 1048576) (hM : MaxP w) (hk : rrOk t = false) :
    Calls Tryd.prog 111 #[.pointer (some ⟨a, 0, none⟩), .pointer (some ⟨b, 0, none⟩), .pointer (some ⟨c, 0, none⟩)] w fun e w' => e = rfP ∧ Below w.heap.size w w' := by
  have B0 := below_al1 w (.cells #[.slice none 0 0, .slice none 0 0, .slice none 0 0, .slice none 0 0] 41)
  have Q0 := Lib.hid (Cells.made w [.slice none 0 0, .slice none 0 0, .slice none 0 0, .slice none 0 0] 41)
  have HR := Lib.hid (rpr_no t _ ht (hM.below B0) hk)
  have hWA : (w.alloc (.cells #[.slice none 0 0, .slice none 0 0, .slice none 0 0, .slice none 0 0] 41)).heap.size = w.heap.size + 1 := by simp
  rw [hWA] at HR
  have WA := Lib.hid hWA
  obtain ⟨z0, z1, z2⟩ := hC.kept B0
  have BB := Lib.hid B0
  clear hC hM hk B0 hWA
  go_enter Tryd.func111, Tryd.ntmps111
  go_wp2_with (go_at_call 112; refine HR.out.mono ?_; rintro e w3 ⟨rfl, hb⟩; rw [← WA.out] at hb; exact ⟨rfl, rfl, below_step BB.out hb⟩)
set_option maxHeartbeats 1600000 in
set_option maxRecDepth 8000 in
theorem attR_yes (t : ByteArray) (a b c : Nat) (w : World) (hC : RtC w a b c 59 t (.func (.func 61) #[] #[])) (ht : t.size ≤ 1048576) (hM : MaxP w) (hk : rrOk t = true) :
    Calls Tryd.prog 110 #[rdFnR a b c] w fun e w' => ∃ v0 v1 v2 v3, e = .returned (.tuple #[.agg #[v0, v1, v2, v3], .nilIface]) ∧ RodO w.heap.size w' v0 v1 v2 v3 (rL (cutZ 59 t)) ∧ Below w.heap.size w w' := by
  have hmf : ∀ (fn : Fn) (first cap : Array Value) (w : World), (Instr.makeFunc fn first cap).run Tryd.prog w = .ok (.func fn first cap) w := fun _ _ _ _ => rfl
  have B0 := below_al2 w (.cells #[.slice none 0 0, .slice none 0 0, .slice none 0 0, .slice none 0 0] 41) (.cells #[.nilIface] 73)
  have X0 := Lib.hid ((Cells.made w [.slice none 0 0, .slice none 0 0, .slice none 0 0, .slice none 0 0] 41).al (.cells #[.nilIface] 73))
  have E0 := Cells.made (w.alloc (.cells #[.slice none 0 0, .slice none 0 0, .slice none 0 0, .slice none 0 0] 41)) [.nilIface] 73
  rw [show (w.alloc (.cells #[.slice none 0 0, .slice none 0 0, .slice none 0 0, .slice none 0 0] 41)).heap.size = w.heap.size + 1 from by simp] at E0
  have E0 := Lib.hid E0
  have HR := Lib.hid (rt1R_yes t a b c _ (hC.kept B0) ht (hM.below B0) hk)
  have hWA : ((w.alloc (.cells #[.slice none 0 0, .slice none 0 0, .slice none 0 0, .slice none 0 0] 41)).alloc (.cells #[.nilIface] 73)).heap.size = w.heap.size + 2 := by simp
  rw [hWA] at HR
  have WA := Lib.hid hWA
  have BB := Lib.hid B0
  obtain ⟨r, hr⟩ : ∃ r, rL (cutZ 59 t) = r := ⟨_, rfl⟩
  rw [hr] at HR ⊢
  clear hC hM hk B0 hWA hr
  go_enter_defers Tryd.func110, Tryd.ntmps110
  go_wp2_with fail
  refine HR.out.mono ?_
  rintro e w3 ⟨v0, v1, v2, v3, rfl, hro, hb⟩
  rw [← WA.out] at hb
  have B5 := Lib.hid (below_step BB.out hb)
  have hX := X0.out.kept hb
  have hE := E0.out.kept hb
  have x0 := hX.at 0 rfl; have x1 := hX.at 1 rfl; have x2 := hX.at 2 rfl; have x3 := hX.at 3 rfl; have xf := hX.fz
  have y0 := hE.at 0 rfl
  have yf := hE.fz
  obtain ⟨⟨a0, c0, rfl⟩, ⟨a1, c1, rfl⟩, ⟨a2, c2, rfl⟩, ⟨a3, c3, rfl⟩⟩ := hro.shapes
  obtain ⟨n0, e0⟩ : ∃ n, r.W.length = n := ⟨_, rfl⟩
  obtain ⟨n1, e1⟩ : ∃ n, r.E.length = n := ⟨_, rfl⟩
  obtain ⟨n2, e2⟩ : ∃ n, r.H.length = n := ⟨_, rfl⟩
  obtain ⟨n3, e3⟩ : ∃ n, r.T.length = n := ⟨_, rfl⟩
  rw [e0, e1, e2, e3] at hro
  rw [e0, e1, e2, e3]
  have R5 := Lib.hid hro
  clear hX hE hb hro e0 e1 e2 e3
  go_wp2
  have HF := Lib.hid ((((((B5.out.setCell (p := ⟨w.heap.size, 0, none⟩) (Nat.le_refl _) (.slice a0 n0 c0)).setCell (p := ⟨w.heap.size, 1, none⟩) (Nat.le_refl _) (.slice a1 n1 c1)).setCell (p := ⟨w.heap.size, 2, none⟩) (Nat.le_refl _) (.slice a2 n2 c2)).setCell (p := ⟨w.heap.size, 3, none⟩) (Nat.le_refl _) (.slice a3 n3 c3))).setCell (p := ⟨w.heap.size + 1, 0, none⟩) (Nat.le_succ _) .nilIface)
  have LTB : w.heap.size < w.heap.size + 2 := by omega
  have HG := Lib.hid ((((((R5.out.far (p := w.heap.size) (Tur.of_onl ((Onl.refl (w.heap.size) _).setCell 0 (.slice a0 n0 c0)) rfl) LTB).far (p := w.heap.size) (Tur.of_onl ((Onl.refl (w.heap.size) _).setCell 1 (.slice a1 n1 c1)) rfl) LTB).far (p := w.heap.size) (Tur.of_onl ((Onl.refl (w.heap.size) _).setCell 2 (.slice a2 n2 c2)) rfl) LTB).far (p := w.heap.size) (Tur.of_onl ((Onl.refl (w.heap.size) _).setCell 3 (.slice a3 n3 c3)) rfl) LTB)).far (p := w.heap.size + 1) (Tur.of_onl ((Onl.refl (w.heap.size + 1) _).setCell 0 .nilIface) rfl) (by omega))
  refine leaves_cons (f := 155) (args := #[.pointer (some ⟨w.heap.size + 1, 0, none⟩)]) (by simp) (by simp [go_sem]) ?_
  refine (catchR_idle _ _).mono ?_
  rintro e u' w'' ⟨rfl, rfl, rfl⟩
  refine ⟨.tuple #[.agg #[.slice a0 n0 c0, .slice a1 n1 c1, .slice a2 n2 c2, .slice a3 n3 c3], .nilIface], ?_, _, _, _, _, rfl, HG.out.mono (by omega), HF.out⟩
  rw [results_cell2 rfl]
  go_simp
set_option maxHeartbeats 1600000 in
set_option maxRecDepth 8000 in
theorem attR_no (t : ByteArray) (a b c : Nat) (w : World) (hC : RtC w a b c 59 t (.func (.func 61) #[] #[])) (ht : t.size ≤ 1048576) (hM : MaxP w) (hk : rrOk t = false) :
    Calls Tryd.prog 110 #[rdFnR a b c] w fun e w' => e = .returned (.tuple #[.agg #[.slice none 0 0, .slice none 0 0, .slice none 0 0, .slice none 0 0], rfV]) ∧ Below w.heap.size w w' := by
  have hmf : ∀ (fn : Fn) (first cap : Array Value) (w : World), (Instr.makeFunc fn first cap).run Tryd.prog w = .ok (.func fn first cap) w := fun _ _ _ _ => rfl
  have B0 := below_al2 w (.cells #[.slice none 0 0, .slice none 0 0, .slice none 0 0, .slice none 0 0] 41) (.cells #[.nilIface] 73)
  have X0 := Lib.hid ((Cells.made w [.slice none 0 0, .slice none 0 0, .slice none 0 0, .slice none 0 0] 41).al (.cells #[.nilIface] 73))
  have E0 := Cells.made (w.alloc (.cells #[.slice none 0 0, .slice none 0 0, .slice none 0 0, .slice none 0 0] 41)) [.nilIface] 73
  rw [show (w.alloc (.cells #[.slice none 0 0, .slice none 0 0, .slice none 0 0, .slice none 0 0] 41)).heap.size = w.heap.size + 1 from by simp] at E0
  have E0 := Lib.hid E0
  have HR := Lib.hid (rt1R_no t a b c _ (hC.kept B0) ht (hM.below B0) hk)
  have hWA : ((w.alloc (.cells #[.slice none 0 0, .slice none 0 0, .slice none 0 0, .slice none 0 0] 41)).alloc (.cells #[.nilIface] 73)).heap.size = w.heap.size + 2 := by simp
  rw [hWA] at HR
  have WA := Lib.hid hWA
  have BB := Lib.hid B0
  clear hC hM hk B0 hWA
  go_enter_defers Tryd.func110, Tryd.ntmps110
  go_wp2_with (go_at_call 111; refine HR.out.mono ?_; rintro e w3 ⟨rfl, hb⟩; rw [← WA.out] at hb; have B5 := Lib.hid (below_step BB.out hb); have hX := X0.out.kept hb; have hE := E0.out.kept hb; have x0 := hX.at 0 rfl; have x1 := hX.at 1 rfl; have x2 := hX.at 2 rfl; have x3 := hX.at 3 rfl; have xf := hX.fz; have y0 := hE.at 0 rfl; have yf := hE.fz; clear hX hE hb)
  refine leaves_cons (f := 155) (args := #[.pointer (some ⟨w.heap.size + 1, 0, none⟩)]) (by simp) (by simp [go_sem]) ?_
  refine (catchR_panic _ [] w3 y0 (yf 0)).mono ?_
  rintro e u' w'' ⟨rfl, rfl, rfl⟩
  have HF := Lib.hid (B5.out.setCell (p := ⟨w.heap.size + 1, 0, none⟩) (Nat.le_succ _) rfV)
  refine ⟨.tuple #[.agg #[.slice none 0 0, .slice none 0 0, .slice none 0 0, .slice none 0 0], rfV], ?_, rfl, HF.out⟩
  rw [results_cell2 rfl]
  go_simp
/-- what reading a rod answers -/
def RrB (t : ByteArray) (w : World) (e : Ending) (w' : World) : Prop := ∃ v0 v1 v2 v3, e = .returned (.tuple #[.agg #[v0, v1, v2, v3], .bool (rrOk t)]) ∧ RodO w.heap.size w' v0 v1 v2 v3 (if rrOk t then rL (cutZ 59 t) else ⟨[], [], [], []⟩) ∧ Below w.heap.size w w'
set_option maxHeartbeats 3200000 in
set_option maxRecDepth 8000 in
theorem readTextR_any (t : ByteArray) (w : World) (ht : t.size ≤ 1048576) (hM : MaxP w) :
    Calls Tryd.prog 60 #[.string t, .string (mkZ 59), .func (.func 61) #[] #[]] w (RrB t w) := by
  have hmf : ∀ (fn : Fn) (first cap : Array Value) (w : World), (Instr.makeFunc fn first cap).run Tryd.prog w = .ok (.func fn first cap) w := fun _ _ _ _ => rfl
  have heq1 : ∀ w : World, (binOp BinOp.eql 73 .nilIface .nilIface).run Tryd.prog w = .ok (.bool true) w := fun _ => by kernel_rfl
  have heq2 : ∀ w : World, (binOp BinOp.eql 73 rfV .nilIface).run Tryd.prog w = .ok (.bool false) w := fun _ => by kernel_rfl
  obtain ⟨W, hW⟩ : ∃ W, W = (((w.alloc (.cells #[.string t] 9)).alloc (.cells #[.string (mkZ 59)] 9)).alloc (.cells #[.func (.func 61) #[] #[]] 89)).alloc (.cells #[.slice none 0 0, .slice none 0 0, .slice none 0 0, .slice none 0 0] 41) := ⟨_, rfl⟩
  have BW : Below w.heap.size w W := by rw [hW]; exact below_al4 _ _ _ _ _
  have SW : W.heap.size = w.heap.size + 4 := by rw [hW]; simp
  have CW : RtC W w.heap.size (w.heap.size + 1) (w.heap.size + 2) 59 t (.func (.func 61) #[] #[]) := by
    rw [hW]
    constructor <;> go_simp
  have QW : Cells W (w.heap.size + 3) [.slice none 0 0, .slice none 0 0, .slice none 0 0, .slice none 0 0] := by
    have h := Cells.made ((((w.alloc (.cells #[.string t] 9)).alloc (.cells #[.string (mkZ 59)] 9)).alloc (.cells #[.func (.func 61) #[] #[]] 89))) [.slice none 0 0, .slice none 0 0, .slice none 0 0, .slice none 0 0] 41
    rw [show ((((w.alloc (.cells #[.string t] 9)).alloc (.cells #[.string (mkZ 59)] 9)).alloc (.cells #[.func (.func 61) #[] #[]] 89)).heap.size = w.heap.size + 3) from by simp] at h
    rw [hW]
    exact h
  have HY := Lib.hid (fun h4 => attR_yes t _ _ _ W CW ht (hM.below BW) h4)
  have HN := Lib.hid (fun h4 => attR_no t _ _ _ W CW ht (hM.below BW) h4)
  have BB := Lib.hid BW
  have QQ := Lib.hid QW
  have SS := Lib.hid SW
  unfold RrB
  cases hk : rrOk t with
  | true =>
    have HR := Lib.hid (HY.out hk)
    obtain ⟨r, hr⟩ : ∃ r, rL (cutZ 59 t) = r := ⟨_, rfl⟩
    rw [hr] at HR ⊢
    clear hr
    clear hM hk BW CW QW HY HN SW
    go_enter Tryd.func60, Tryd.ntmps60
    go_wp2_with fail
    rw [← hW]
    refine HR.out.mono ?_
    rintro e w3 ⟨v0, v1, v2, v3, rfl, hro, hb⟩
    obtain ⟨⟨a0, c0, rfl⟩, ⟨a1, c1, rfl⟩, ⟨a2, c2, rfl⟩, ⟨a3, c3, rfl⟩⟩ := hro.shapes
    obtain ⟨n0, e0⟩ : ∃ n, r.W.length = n := ⟨_, rfl⟩
    obtain ⟨n1, e1⟩ : ∃ n, r.E.length = n := ⟨_, rfl⟩
    obtain ⟨n2, e2⟩ : ∃ n, r.H.length = n := ⟨_, rfl⟩
    obtain ⟨n3, e3⟩ : ∃ n, r.T.length = n := ⟨_, rfl⟩
    rw [e0, e1, e2, e3] at hro
    rw [e0, e1, e2, e3]
    clear e0 e1 e2 e3
    rw [SS.out] at hro
    have Q3 := Lib.hid (QQ.out.kept hb)
    have B3 := Lib.hid (below_step BB.out hb)
    have EW : Hid (∀ w4, w4 = w3.alloc (.cells #[.slice a0 n0 c0, .slice a1 n1 c1, .slice a2 n2 c2, .slice a3 n3 c3] 41) → Cells w4 w3.heap.size [.slice a0 n0 c0, .slice a1 n1 c1, .slice a2 n2 c2, .slice a3 n3 c3] ∧ Cells w4 (w.heap.size + 3) [.slice none 0 0, .slice none 0 0, .slice none 0 0, .slice none 0 0] ∧ Below w.heap.size w w4 ∧ RodO (w.heap.size + 4) w4 (.slice a0 n0 c0) (.slice a1 n1 c1) (.slice a2 n2 c2) (.slice a3 n3 c3) r) := Lib.hid (fun w4 e => by
      have b := below_al1 w3 (.cells #[.slice a0 n0 c0, .slice a1 n1 c1, .slice a2 n2 c2, .slice a3 n3 c3] 41)
      rw [← e] at b
      refine ⟨?_, Q3.out.kept b, below_step B3.out b, hro.kept b⟩
      rw [e]
      exact Cells.made w3 [.slice a0 n0 c0, .slice a1 n1 c1, .slice a2 n2 c2, .slice a3 n3 c3] 41)
    clear hb hW
    go_wp2
    obtain ⟨w4, hw4⟩ : ∃ w4, w4 = w3.alloc (.cells #[.slice a0 n0 c0, .slice a1 n1 c1, .slice a2 n2 c2, .slice a3 n3 c3] 41) := ⟨_, rfl⟩
    rw [← hw4]
    obtain ⟨hE, hQ, hB, hRo⟩ := EW.out w4 hw4
    have d0 := hE.at 0 rfl; have d1 := hE.at 1 rfl; have d2 := hE.at 2 rfl; have d3 := hE.at 3 rfl
    have q0 := hQ.at 0 rfl; have q1 := hQ.at 1 rfl; have q2 := hQ.at 2 rfl; have q3 := hQ.at 3 rfl; have qf := hQ.fz
    have B4 := Lib.hid hB
    have R4 := Lib.hid hRo
    clear hRo hro
    clear hw4 EW hE hQ hB
    go_region
    have HF := Lib.hid (below_drewN ((((B4.out.setCell (p := ⟨w.heap.size + 3, 0, none⟩) (Nat.le_add_right _ _) (.slice a0 n0 c0)).setCell (p := ⟨w.heap.size + 3, 1, none⟩) (Nat.le_add_right _ _) (.slice a1 n1 c1)).setCell (p := ⟨w.heap.size + 3, 2, none⟩) (Nat.le_add_right _ _) (.slice a2 n2 c2)).setCell (p := ⟨w.heap.size + 3, 3, none⟩) (Nat.le_add_right _ _) (.slice a3 n3 c3)) 1)
    have LTB : w.heap.size + 3 < w.heap.size + 4 := Nat.lt_succ_self _
    have HG := Lib.hid ((((((R4.out.far (p := w.heap.size + 3) (Tur.of_onl ((Onl.refl (w.heap.size + 3) _).setCell 0 (.slice a0 n0 c0)) rfl) LTB).far (p := w.heap.size + 3) (Tur.of_onl ((Onl.refl (w.heap.size + 3) _).setCell 1 (.slice a1 n1 c1)) rfl) LTB).far (p := w.heap.size + 3) (Tur.of_onl ((Onl.refl (w.heap.size + 3) _).setCell 2 (.slice a2 n2 c2)) rfl) LTB).far (p := w.heap.size + 3) (Tur.of_onl ((Onl.refl (w.heap.size + 3) _).setCell 3 (.slice a3 n3 c3)) rfl) LTB)).kept (below_drewN (Below.refl _ _) 1))
    go_wp2
    refine bodyPost_ret (v := .tuple #[.agg #[.slice a0 n0 c0, .slice a1 n1 c1, .slice a2 n2 c2, .slice a3 n3 c3], .bool true]) ?_ rfl ?_
    · rw [results_cell_tmp rfl]
      go_simp
    · exact ⟨_, _, _, _, rfl, HG.out.mono (by omega), HF.out⟩
  | false =>
    have HR := Lib.hid (HN.out hk)
    clear hM hk BW CW QW HY HN SW
    go_enter Tryd.func60, Tryd.ntmps60
    go_wp2_with fail
    rw [← hW]
    refine HR.out.mono ?_
    rintro e w3 ⟨rfl, hb⟩
    have Q3 := Lib.hid (QQ.out.kept hb)
    have B3 := Lib.hid (below_step BB.out hb)
    have EW : Hid (∀ w4, w4 = w3.alloc (.cells #[.slice none 0 0, .slice none 0 0, .slice none 0 0, .slice none 0 0] 41) → Cells w4 w3.heap.size [.slice none 0 0, .slice none 0 0, .slice none 0 0, .slice none 0 0] ∧ Cells w4 (w.heap.size + 3) [.slice none 0 0, .slice none 0 0, .slice none 0 0, .slice none 0 0] ∧ Below w.heap.size w w4) := Lib.hid (fun w4 e => by
      have b := below_al1 w3 (.cells #[.slice none 0 0, .slice none 0 0, .slice none 0 0, .slice none 0 0] 41)
      rw [← e] at b
      refine ⟨?_, Q3.out.kept b, below_step B3.out b⟩
      rw [e]
      exact Cells.made w3 [.slice none 0 0, .slice none 0 0, .slice none 0 0, .slice none 0 0] 41)
    clear hb hW
    go_wp2
    obtain ⟨w4, hw4⟩ : ∃ w4, w4 = w3.alloc (.cells #[.slice none 0 0, .slice none 0 0, .slice none 0 0, .slice none 0 0] 41) := ⟨_, rfl⟩
    rw [← hw4]
    obtain ⟨hE, hQ, hB⟩ := EW.out w4 hw4
    have d0 := hE.at 0 rfl; have d1 := hE.at 1 rfl; have d2 := hE.at 2 rfl; have d3 := hE.at 3 rfl
    have q0 := hQ.at 0 rfl; have q1 := hQ.at 1 rfl; have q2 := hQ.at 2 rfl; have q3 := hQ.at 3 rfl; have qf := hQ.fz
    have B4 := Lib.hid hB
    clear hw4 EW hE hQ hB
    go_region
    have HF := Lib.hid (below_drewN ((((B4.out.setCell (p := ⟨w.heap.size + 3, 0, none⟩) (Nat.le_add_right _ _) (.slice none 0 0)).setCell (p := ⟨w.heap.size + 3, 1, none⟩) (Nat.le_add_right _ _) (.slice none 0 0)).setCell (p := ⟨w.heap.size + 3, 2, none⟩) (Nat.le_add_right _ _) (.slice none 0 0)).setCell (p := ⟨w.heap.size + 3, 3, none⟩) (Nat.le_add_right _ _) (.slice none 0 0)) 1)
    go_wp2
    refine bodyPost_ret (v := .tuple #[.agg #[.slice none 0 0, .slice none 0 0, .slice none 0 0, .slice none 0 0], .bool false]) ?_ rfl ?_
    · rw [results_cell_tmp rfl]
      go_simp
    · exact ⟨_, _, _, _, rfl, RodO.nil HF.out.size, HF.out⟩
set_option maxHeartbeats 1600000 in
theorem implReadRod_any (t : ByteArray) (w : World) (ht : t.size ≤ 1048576) (hM : MaxP w) : Calls Tryd.prog 27 #[.string t] w (RrB t w) := by
  have B0 := below_al1 w (.cells #[.slice none 0 0, .slice none 0 0, .slice none 0 0, .slice none 0 0] 41)
  have Q0 := Lib.hid (Cells.made w [.slice none 0 0, .slice none 0 0, .slice none 0 0, .slice none 0 0] 41)
  have HR := Lib.hid (readTextR_any t _ ht (hM.below B0))
  have hWA : (w.alloc (.cells #[.slice none 0 0, .slice none 0 0, .slice none 0 0, .slice none 0 0] 41)).heap.size = w.heap.size + 1 := by simp
  have BB := Lib.hid B0
  unfold RrB at HR ⊢
  rw [hWA] at HR
  have WA := Lib.hid hWA
  obtain ⟨b, hb⟩ : ∃ b, rrOk t = b := ⟨_, rfl⟩
  rw [hb] at HR ⊢
  obtain ⟨r, hr⟩ : ∃ r, (if b = true then rL (cutZ 59 t) else ⟨[], [], [], []⟩) = r := ⟨_, rfl⟩
  rw [hr] at HR ⊢
  clear hM hb hr B0 hWA
  go_enter Tryd.func27, Tryd.ntmps27
  go_wp2_with fail
  refine HR.out.mono ?_
  rintro e w3 ⟨v0, v1, v2, v3, rfl, hro, hb⟩
  rw [← WA.out] at hb
  have B5 := Lib.hid (below_step BB.out hb)
  have hQ := Q0.out.kept hb
  have q0 := hQ.at 0 rfl; have q1 := hQ.at 1 rfl; have q2 := hQ.at 2 rfl; have q3 := hQ.at 3 rfl; have qf := hQ.fz
  obtain ⟨⟨a0, c0, rfl⟩, ⟨a1, c1, rfl⟩, ⟨a2, c2, rfl⟩, ⟨a3, c3, rfl⟩⟩ := hro.shapes
  obtain ⟨n0, e0⟩ : ∃ n, r.W.length = n := ⟨_, rfl⟩
  obtain ⟨n1, e1⟩ : ∃ n, r.E.length = n := ⟨_, rfl⟩
  obtain ⟨n2, e2⟩ : ∃ n, r.H.length = n := ⟨_, rfl⟩
  obtain ⟨n3, e3⟩ : ∃ n, r.T.length = n := ⟨_, rfl⟩
  rw [e0, e1, e2, e3] at hro
  rw [e0, e1, e2, e3]
  have R5 := Lib.hid hro
  clear hQ hb hro e0 e1 e2 e3
  go_wp2
  have LTB : w.heap.size < w.heap.size + 1 := Nat.lt_succ_self _
  have HF := Lib.hid ((((B5.out.setCell (p := ⟨w.heap.size, 0, none⟩) (Nat.le_refl _) (.slice a0 n0 c0)).setCell (p := ⟨w.heap.size, 1, none⟩) (Nat.le_refl _) (.slice a1 n1 c1)).setCell (p := ⟨w.heap.size, 2, none⟩) (Nat.le_refl _) (.slice a2 n2 c2)).setCell (p := ⟨w.heap.size, 3, none⟩) (Nat.le_refl _) (.slice a3 n3 c3))
  have HG := Lib.hid ((((R5.out.far (p := w.heap.size) (Tur.of_onl ((Onl.refl (w.heap.size) _).setCell 0 (.slice a0 n0 c0)) rfl) LTB).far (p := w.heap.size) (Tur.of_onl ((Onl.refl (w.heap.size) _).setCell 1 (.slice a1 n1 c1)) rfl) LTB).far (p := w.heap.size) (Tur.of_onl ((Onl.refl (w.heap.size) _).setCell 2 (.slice a2 n2 c2)) rfl) LTB).far (p := w.heap.size) (Tur.of_onl ((Onl.refl (w.heap.size) _).setCell 3 (.slice a3 n3 c3)) rfl) LTB)
  refine bodyPost_ret (v := .tuple #[.agg #[.slice a0 n0 c0, .slice a1 n1 c1, .slice a2 n2 c2, .slice a3 n3 c3], .bool b]) ?_ rfl ?_
  · rw [results_cell_tmp rfl]
    go_simp
  · exact ⟨_, _, _, _, rfl, HG.out.mono (Nat.le_succ _), HF.out⟩
end Go.Proofs.YtncjkhdnpioinaaDoor

/- Rods read from a text: the specification. -/
namespace Go.Proofs.YtncjkhdnpioinaaDoor
open Go.RowKit
set_option linter.unusedVariables false

theorem four_of {ps : List ByteArray} (h : ps.length = 4) : zGet ps 0 = hdP ps ∧ zGet ps 1 = hdP ps.tail ∧ zGet ps 2 = hdP ps.tail.tail ∧ zGet ps 3 = hdP ps.tail.tail.tail := by
  match ps, h with
  | [a, b, c, d], _ => exact ⟨rfl, rfl, rfl, rfl⟩
theorem below4 {P : Nat → Prop} (h0 : P 0) (h1 : P 1) (h2 : P 2) (h3 : P 3) : ∀ k, k < 4 → P k
  | 0, _ => h0
  | 1, _ => h1
  | 2, _ => h2
  | 3, _ => h3
/-- four lists of a call's own -/
structure OR4 (h : Nat) (w : World) (a b c d : Value) (r : RL) : Prop where
  W : ORow h w a r.W
  E : ORow h w b r.E
  H : ORow h w c r.H
  T : ORow h w d r.T
theorem OR4.far {h p : Nat} {w w' : World} {a b c d : Value} {r : RL} (H : OR4 h w a b c d r) (o : Onl p w w') (hp : p < h) : OR4 h w' a b c d r := ⟨H.W.far o hp, H.E.far o hp, H.H.far o hp, H.T.far o hp⟩
theorem OR4.kept {h : Nat} {w w' : World} {a b c d : Value} {r : RL} (H : OR4 h w a b c d r) (hb : Below w.heap.size w w') : OR4 h w' a b c d r := ⟨H.W.kept hb, H.E.kept hb, H.H.kept hb, H.T.kept hb⟩
theorem OR4.mono {h h' : Nat} {w : World} {a b c d : Value} {r : RL} (H : OR4 h w a b c d r) (hh : h' ≤ h) : OR4 h' w a b c d r := ⟨H.W.mono hh, H.E.mono hh, H.H.mono hh, H.T.mono hh⟩
theorem OR4.rrow {h : Nat} {w : World} {a b c d : Value} {r : RL} (H : OR4 h w a b c d r) (hl : r.size ≤ 1048576) : RRow w a b c d r := by
  have hx : maxLen = 9223372036854775807 := rfl
  unfold RL.size at hl
  exact ⟨H.W.frow (by omega), H.E.frow (by omega), H.H.frow (by omega), H.T.frow (by omega)⟩
theorem OR4.shapes {h : Nat} {w : World} {a b c d : Value} {r : RL} (H : OR4 h w a b c d r) : (∃ x k, a = .slice x r.W.length k) ∧ (∃ x k, b = .slice x r.E.length k) ∧ (∃ x k, c = .slice x r.H.length k) ∧ ∃ x k, d = .slice x r.T.length k :=
  ⟨H.W.shape, H.E.shape, H.H.shape, H.T.shape⟩
/-- what the specification answers -/
def RsB (t : ByteArray) (w : World) (e : Ending) (w' : World) : Prop := ∃ v0 v1 v2 v3, e = .returned (.tuple #[.agg #[v0, v1, v2, v3], .bool (rrOk t)]) ∧ OR4 w.heap.size w' v0 v1 v2 v3 (if rrOk t then rL (cutZ 59 t) else ⟨[], [], [], []⟩) ∧ Below w.heap.size w w'
theorem OR4.nil (h : Nat) (w : World) : OR4 h w (.slice none 0 0) (.slice none 0 0) (.slice none 0 0) (.slice none 0 0) ⟨[], [], [], []⟩ := ⟨.nil, .nil, .nil, .nil⟩
theorem rsNo {t : ByteArray} {w : World} (h : rrOk t = false) (w' : World) (hb : Below w.heap.size w w') : RsB t w (.returned (.tuple #[nilRd, .bool false])) w' :=
  ⟨_, _, _, _, by rw [h]; rfl, by rw [h]; exact OR4.nil _ _, hb⟩

set_option maxHeartbeats 6400000 in
set_option maxRecDepth 10000 in
theorem specRr_any (t : ByteArray) (w : World) (ht : t.size ≤ 1048576) : Calls Tryd.prog 59 #[.string t] w (RsB t w) := by
  have B0 := below_al1 w (.cells #[.slice none 0 0, .slice none 0 0, .slice none 0 0, .slice none 0 0] 41)
  have Q0 := Lib.hid (Cells.made w [.slice none 0 0, .slice none 0 0, .slice none 0 0, .slice none 0 0] 41)
  have HC := Lib.hid (fun w1 => specCut_any t 59 59 rfl w1 ht)
  have HNo := Lib.hid (fun h w' hb => rsNo (t := t) (w := w) h w' hb)
  unfold nilRd at HNo
  have BB := Lib.hid B0
  have hle := cutZ_le 59 t
  by_cases h2 : (cutZ 59 t).length = 4
  · obtain ⟨f0, f1, f2, f3⟩ := four_of h2
    have HS := Lib.hid (fun k (hk : k < 4) => Nat.le_trans (part_le 59 t.size t (Nat.le_refl _) (zGet (cutZ 59 t) k) (by
      unfold zGet
      rw [List.getD_eq_getElem?_getD, List.getElem?_eq_getElem (by omega)]
      exact List.getElem_mem _)) ht)
    have HO : Hid (rrOk t = (lsOk (cutZ 59 t) 4 && vRod (rL (cutZ 59 t)))) := Lib.hid (by
      unfold rrOk rOk
      rw [decide_eq_true h2, Bool.and_true]
      have e : lsOk (cutZ 59 t) 4 = (nlOk (hdP (cutZ 59 t)) && (nlOk (hdP (cutZ 59 t).tail) && (nlOk (hdP (cutZ 59 t).tail.tail) && nlOk (hdP (cutZ 59 t).tail.tail.tail)))) := by
        unfold lsOk
        rw [Bool.eq_iff_iff, decide_eq_true_eq, Bool.and_eq_true, Bool.and_eq_true, Bool.and_eq_true, ← f0, ← f1, ← f2, ← f3]
        exact ⟨fun h => ⟨h 0 (by omega), h 1 (by omega), h 2 (by omega), h 3 (by omega)⟩, fun ⟨h0, h1, h2, h3⟩ => below4 h0 h1 h2 h3⟩
      rw [e]
      simp only [Bool.and_assoc])
    have HR0 : Hid (rL (cutZ 59 t) = ⟨nlL (zGet (cutZ 59 t) 0), nlL (zGet (cutZ 59 t) 1), nlL (zGet (cutZ 59 t) 2), nlL (zGet (cutZ 59 t) 3)⟩) := Lib.hid (by rw [f0, f1, f2, f3])
    have HYes : Hid (rrOk t = true → ∀ v0 v1 v2 v3 w', OR4 w.heap.size w' v0 v1 v2 v3 (rL (cutZ 59 t)) → Below w.heap.size w w' → RsB t w (.returned (.tuple #[.agg #[v0, v1, v2, v3], .bool true])) w') := Lib.hid (fun h v0 v1 v2 v3 w' hr hb => ⟨v0, v1, v2, v3, by rw [h], by rw [h]; exact hr, hb⟩)
    have HL := Lib.hid (fun v w1 (hr : ZRow w1 v (cutZ 59 t)) => specLists_any v (cutZ 59 t) 4 w1 hr (by omega) (by omega) HS.out)
    have HH := Lib.hid h2
    rw [HR0.out] at HYes HO
    have l0 := nlL_le (zGet (cutZ 59 t) 0)
    have l1 := nlL_le (zGet (cutZ 59 t) 1)
    have l2 := nlL_le (zGet (cutZ 59 t) 2)
    have l3 := nlL_le (zGet (cutZ 59 t) 3)
    have HLn := Lib.hid (And.intro l0 (And.intro l1 (And.intro l2 l3)))
    obtain ⟨ps, hps⟩ : ∃ ps, cutZ 59 t = ps := ⟨_, rfl⟩
    rw [hps] at HC HL HO HYes HH HLn
    have hp4 : ps.length ≤ 1048576 := by rw [HH.out]; decide
    have HP4 := Lib.hid hp4
    clear B0 h2 hps hle f0 f1 f2 f3 HR0 HS l0 l1 l2 l3 hp4
    go_enter Tryd.func59, Tryd.ntmps59
    go_wp2_with fail
    refine (HC.out _).mono ?_
    rintro e w1 ⟨v, rfl, ho, hb⟩
    have hr1 := Lib.hid (ho.row HP4.out)
    obtain ⟨g, cap, rfl⟩ := ho.openS (by rw [HH.out]; omega)
    have Q1 := Lib.hid (Q0.out.kept hb)
    have B1 := Lib.hid (below_step BB.out hb)
    have HLx := Lib.hid (HL.out _ _ hr1.out)
    rw [HH.out] at HLx ⊢
    clear ho hb hr1
    go_wp2_with fail
    refine HLx.out.mono ?_
    rintro e w2 hls
    rcases hls with ⟨hno, rfl, hb⟩ | ⟨hyes, v, vs, rfl, ho, hvl, hrows, hb⟩
    · have hQ := Q1.out.kept hb
      have q0 := hQ.at 0 rfl; have q1 := hQ.at 1 rfl; have q2 := hQ.at 2 rfl; have q3 := hQ.at 3 rfl; have qf := hQ.fz
      have B2 := Lib.hid (below_step B1.out hb)
      have HF := Lib.hid ((((B2.out.setCell (p := ⟨w.heap.size, 0, none⟩) (Nat.le_refl _) (.slice none 0 0)).setCell (p := ⟨w.heap.size, 1, none⟩) (Nat.le_refl _) (.slice none 0 0)).setCell (p := ⟨w.heap.size, 2, none⟩) (Nat.le_refl _) (.slice none 0 0)).setCell (p := ⟨w.heap.size, 3, none⟩) (Nat.le_refl _) (.slice none 0 0))
      have HRt := Lib.hid (fun w' hb => HNo.out (by rw [HO.out, hno]; rfl) w' hb)
      clear hQ hb hno
      go_wp2
      refine bodyPost_ret (v := .tuple #[.agg #[.slice none 0 0, .slice none 0 0, .slice none 0 0, .slice none 0 0], .bool false]) ?_ rfl ?_
      · rw [results_cell_tmp rfl]
        go_simp
      · exact HRt.out _ HF.out
    · obtain ⟨g2, cap2, rfl⟩ := ho.openS (by omega)
      have z0 := ho.cellAt 0 (by omega)
      have z1 := ho.cellAt 1 (by omega)
      have z2 := ho.cellAt 2 (by omega)
      have z3 := ho.cellAt 3 (by omega)
      obtain ⟨ll0, ll1, ll2, ll3⟩ := HLn.out
      have hmx : maxLen = 9223372036854775807 := rfl
      have r0 := hrows 0 (by omega)
      have r1 := hrows 1 (by omega)
      have r2 := hrows 2 (by omega)
      have r3 := hrows 3 (by omega)
      obtain ⟨a0, c0, e0⟩ := r0.shape
      obtain ⟨a1, c1, e1⟩ := r1.shape
      obtain ⟨a2, c2, e2⟩ := r2.shape
      obtain ⟨a3, c3, e3⟩ := r3.shape
      rw [e0] at z0 r0
      rw [e1] at z1 r1
      rw [e2] at z2 r2
      rw [e3] at z3 r3
      rw [hvl]
      obtain ⟨L0, hL0⟩ : ∃ L, nlL (zGet ps 0) = L := ⟨_, rfl⟩
      obtain ⟨L1, hL1⟩ : ∃ L, nlL (zGet ps 1) = L := ⟨_, rfl⟩
      obtain ⟨L2, hL2⟩ : ∃ L, nlL (zGet ps 2) = L := ⟨_, rfl⟩
      obtain ⟨L3, hL3⟩ : ∃ L, nlL (zGet ps 3) = L := ⟨_, rfl⟩
      rw [hL0] at z0 r0
      rw [hL1] at z1 r1
      rw [hL2] at z2 r2
      rw [hL3] at z3 r3
      rw [hL0, hL1, hL2, hL3] at HYes HO
      rw [hL0] at ll0
      rw [hL1] at ll1
      rw [hL2] at ll2
      rw [hL3] at ll3
      have RR : Hid (RRow w2 (.slice a0 L0.length c0) (.slice a1 L1.length c1) (.slice a2 L2.length c2) (.slice a3 L3.length c3) ⟨L0, L1, L2, L3⟩) := Lib.hid ⟨r0.frow (by omega), r1.frow (by omega), r2.frow (by omega), r3.frow (by omega)⟩
      have hlt1 : w.heap.size < w1.heap.size := Q1.out.lt
      have RFr := Lib.hid (fun w3 (h : Ext w2 w3) w4 (o : Onl w.heap.size w3 w4) => show OR4 w.heap.size w4 (.slice a0 L0.length c0) (.slice a1 L1.length c1) (.slice a2 L2.length c2) (.slice a3 L3.length c3) ⟨L0, L1, L2, L3⟩ from (OR4.mono ⟨(r0.kept h).far o hlt1, (r1.kept h).far o hlt1, (r2.kept h).far o hlt1, (r3.kept h).far o hlt1⟩ (Nat.le_of_lt hlt1)))
      have B2 := Lib.hid (below_step B1.out hb)
      have Q2 := Lib.hid (Q1.out.kept hb)
      have HG := Lib.hid (fun w3 (h : Ext w2 w3) => specGive_any _ _ _ _ _ w3 (RR.out.below h))
      rw [hyes, Bool.true_and] at HO
      have FACT := Lib.hid (fun w3 (h : Ext w2 w3) => And.intro (h.cell z0) (And.intro (h.cell z1) (And.intro (h.cell z2) (h.cell z3))))
      unfold GiveP ifR nilRd at HG
      clear ho hvl hrows hb hyes z0 z1 z2 z3 r0 r1 r2 r3 e0 e1 e2 e3 hL0 hL1 hL2 hL3 ll0 ll1 ll2 ll3 hmx hlt1
      cases hv : vRod ⟨L0, L1, L2, L3⟩ with
      | false =>
        rw [hv] at HG HO
        have HRt := Lib.hid (fun w' hb => HNo.out HO.out w' hb)
        clear hv
        go_wp2
        refine wp_region_facts_tail 16 [15] (Ext w2) (TS [(34, fIs (.tuple #[.agg #[.slice none 0 0, .slice none 0 0, .slice none 0 0, .slice none 0 0], .bool false]))]) (Pers.ext _) (TS.pers _) (Ext.start _) (by kernel_rfl) (by kernel_rfl) (by intro d v c a w h; cases d <;> exact h) ?_
        simp only [List.take_succ_cons, List.take_zero, List.drop_succ_cons, List.drop_zero]
        repeat (refine wpF_val rfl monoQ_end (by rintro _ ⟨⟩; rfl) ?_ (fun w1 hw1 => ?_) (fun K hK => ?_); rotate_left; (focus (have hF := FACT.out w1 hw1; go_simp; first | done | rfl)); go_simp; refine hK _ ?_; clear hK K)
        refine wpF_callF rfl 34 rfl 109 #[.agg #[.slice a0 L0.length c0, .slice a1 L1.length c1, .slice a2 L2.length c2, .slice a3 L3.length c3]] (fIs (.tuple #[.agg #[.slice none 0 0, .slice none 0 0, .slice none 0 0, .slice none 0 0], .bool false])) rfl (fun w6 => ?_) (fun w6 hC hN => ?_) (fun v1 hv1 => ?_)
        · go_simp
        · refine (HG.out w6 hC).mono ?_
          rintro _ w7 ⟨rfl, hb⟩
          exact ⟨_, rfl, hb, rfl⟩
        obtain ⟨_, rfl⟩ := hv1
        repeat (refine wpF_val rfl monoQ_end (by rintro _ ⟨⟩; rfl) ?_ (fun w1 hw1 => ?_) (fun K hK => ?_); rotate_left; (focus (have hF := FACT.out w1 hw1; go_simp; first | done | rfl)); go_simp; refine hK _ ?_; clear hK K)
        refine wpFacts_nil ?_
        intro w3 hb3 _
        have hQ := Q2.out.kept hb3
        have q0 := hQ.at 0 rfl; have q1 := hQ.at 1 rfl; have q2 := hQ.at 2 rfl; have q3 := hQ.at 3 rfl; have qf := hQ.fz
        have B3 := Lib.hid (below_step B2.out hb3)
        have HF := Lib.hid ((((B3.out.setCell (p := ⟨w.heap.size, 0, none⟩) (Nat.le_refl _) (.slice none 0 0)).setCell (p := ⟨w.heap.size, 1, none⟩) (Nat.le_refl _) (.slice none 0 0)).setCell (p := ⟨w.heap.size, 2, none⟩) (Nat.le_refl _) (.slice none 0 0)).setCell (p := ⟨w.heap.size, 3, none⟩) (Nat.le_refl _) (.slice none 0 0))
        clear hQ hb3
        go_wp2
        refine bodyPost_ret (v := .tuple #[.agg #[.slice none 0 0, .slice none 0 0, .slice none 0 0, .slice none 0 0], .bool false]) ?_ rfl ?_
        · rw [results_cell_tmp rfl]
          go_simp
        · exact HRt.out _ HF.out
      | true =>
        rw [hv] at HG HO
        have HRt := Lib.hid (fun v0 v1 v2 v3 w' hr hb => HYes.out HO.out v0 v1 v2 v3 w' hr hb)
        clear hv
        go_wp2
        refine wp_region_facts_tail 16 [15] (Ext w2) (TS [(34, fIs (.tuple #[.agg #[.slice a0 L0.length c0, .slice a1 L1.length c1, .slice a2 L2.length c2, .slice a3 L3.length c3], .bool true]))]) (Pers.ext _) (TS.pers _) (Ext.start _) (by kernel_rfl) (by kernel_rfl) (by intro d v c a w h; cases d <;> exact h) ?_
        simp only [List.take_succ_cons, List.take_zero, List.drop_succ_cons, List.drop_zero]
        repeat (refine wpF_val rfl monoQ_end (by rintro _ ⟨⟩; rfl) ?_ (fun w1 hw1 => ?_) (fun K hK => ?_); rotate_left; (focus (have hF := FACT.out w1 hw1; go_simp; first | done | rfl)); go_simp; refine hK _ ?_; clear hK K)
        refine wpF_callF rfl 34 rfl 109 #[.agg #[.slice a0 L0.length c0, .slice a1 L1.length c1, .slice a2 L2.length c2, .slice a3 L3.length c3]] (fIs (.tuple #[.agg #[.slice a0 L0.length c0, .slice a1 L1.length c1, .slice a2 L2.length c2, .slice a3 L3.length c3], .bool true])) rfl (fun w6 => ?_) (fun w6 hC hN => ?_) (fun v1 hv1 => ?_)
        · go_simp
        · refine (HG.out w6 hC).mono ?_
          rintro _ w7 ⟨rfl, hb⟩
          exact ⟨_, rfl, hb, rfl⟩
        obtain ⟨_, rfl⟩ := hv1
        repeat (refine wpF_val rfl monoQ_end (by rintro _ ⟨⟩; rfl) ?_ (fun w1 hw1 => ?_) (fun K hK => ?_); rotate_left; (focus (have hF := FACT.out w1 hw1; go_simp; first | done | rfl)); go_simp; refine hK _ ?_; clear hK K)
        refine wpFacts_nil ?_
        intro w3 hb3 _
        have hQ := Q2.out.kept hb3
        have q0 := hQ.at 0 rfl; have q1 := hQ.at 1 rfl; have q2 := hQ.at 2 rfl; have q3 := hQ.at 3 rfl; have qf := hQ.fz
        have B3 := Lib.hid (below_step B2.out hb3)
        have HF := Lib.hid ((((B3.out.setCell (p := ⟨w.heap.size, 0, none⟩) (Nat.le_refl _) (.slice a0 L0.length c0)).setCell (p := ⟨w.heap.size, 1, none⟩) (Nat.le_refl _) (.slice a1 L1.length c1)).setCell (p := ⟨w.heap.size, 2, none⟩) (Nat.le_refl _) (.slice a2 L2.length c2)).setCell (p := ⟨w.heap.size, 3, none⟩) (Nat.le_refl _) (.slice a3 L3.length c3))
        have RF := Lib.hid (RFr.out w3 hb3 _ (((((Onl.refl w.heap.size w3).setCell 0 (.slice a0 L0.length c0)).setCell 1 (.slice a1 L1.length c1)).setCell 2 (.slice a2 L2.length c2)).setCell 3 (.slice a3 L3.length c3)))
        clear hQ hb3
        go_wp2
        refine bodyPost_ret (v := .tuple #[.agg #[.slice a0 L0.length c0, .slice a1 L1.length c1, .slice a2 L2.length c2, .slice a3 L3.length c3], .bool true]) ?_ rfl ?_
        · rw [results_cell_tmp rfl]
          go_simp
        · exact HRt.out _ _ _ _ _ RF.out HF.out
  · have hno : rrOk t = false := by unfold rrOk; rw [decide_eq_false h2, Bool.and_false]
    have HRt := Lib.hid (fun w' hb => HNo.out hno w' hb)
    obtain ⟨ps, hps⟩ : ∃ ps, cutZ 59 t = ps := ⟨_, rfl⟩
    rw [hps] at HC h2 hle
    clear B0 hno hps
    go_enter Tryd.func59, Tryd.ntmps59
    go_wp2_with fail
    refine (HC.out _).mono ?_
    rintro e w1 ⟨v, rfl, ho, hb⟩
    have hsh : ∃ a c, v = .slice a ps.length c := by
      rcases ho.2 with ⟨h1, h0⟩ | ⟨g, cap, cur, e, _⟩
      · exact ⟨none, 0, by rw [h1, h0]⟩
      · exact ⟨_, _, e⟩
    obtain ⟨a, cap, rfl⟩ := hsh
    obtain ⟨n, hn⟩ : ∃ n, ps.length = n := ⟨_, rfl⟩
    rw [hn] at h2 hle ⊢
    have hq : ((n : Int) == 4) = false := by simp; omega
    have hQ := Q0.out.kept hb
    have q0 := hQ.at 0 rfl; have q1 := hQ.at 1 rfl; have q2 := hQ.at 2 rfl; have q3 := hQ.at 3 rfl; have qf := hQ.fz
    have B1 := Lib.hid (below_step BB.out hb)
    have HF := Lib.hid ((((B1.out.setCell (p := ⟨w.heap.size, 0, none⟩) (Nat.le_refl _) (.slice none 0 0)).setCell (p := ⟨w.heap.size, 1, none⟩) (Nat.le_refl _) (.slice none 0 0)).setCell (p := ⟨w.heap.size, 2, none⟩) (Nat.le_refl _) (.slice none 0 0)).setCell (p := ⟨w.heap.size, 3, none⟩) (Nat.le_refl _) (.slice none 0 0))
    clear ho hb hn hQ
    go_wp2
    refine bodyPost_ret (v := .tuple #[.agg #[.slice none 0 0, .slice none 0 0, .slice none 0 0, .slice none 0 0], .bool false]) ?_ rfl ?_
    · rw [results_cell_tmp rfl]
      go_simp
    · exact HRt.out _ HF.out
set_option maxHeartbeats 1600000 in
theorem specReadRod_any (t : ByteArray) (w : World) (ht : t.size ≤ 1048576) : Calls Tryd.prog 26 #[.string t] w (RsB t w) := by
  have B0 := below_al1 w (.cells #[.slice none 0 0, .slice none 0 0, .slice none 0 0, .slice none 0 0] 41)
  have Q0 := Lib.hid (Cells.made w [.slice none 0 0, .slice none 0 0, .slice none 0 0, .slice none 0 0] 41)
  have HR := Lib.hid (specRr_any t (w.alloc (.cells #[.slice none 0 0, .slice none 0 0, .slice none 0 0, .slice none 0 0] 41)) ht)
  have hWA : (w.alloc (.cells #[.slice none 0 0, .slice none 0 0, .slice none 0 0, .slice none 0 0] 41)).heap.size = w.heap.size + 1 := by simp
  have BB := Lib.hid B0
  unfold RsB at HR ⊢
  rw [hWA] at HR
  have WA := Lib.hid hWA
  obtain ⟨b, hb⟩ : ∃ b, rrOk t = b := ⟨_, rfl⟩
  rw [hb] at HR ⊢
  obtain ⟨r, hr⟩ : ∃ r, (if b = true then rL (cutZ 59 t) else ⟨[], [], [], []⟩) = r := ⟨_, rfl⟩
  rw [hr] at HR ⊢
  clear hb hr B0 hWA
  go_enter Tryd.func26, Tryd.ntmps26
  go_wp2_with fail
  refine HR.out.mono ?_
  rintro e w3 ⟨v0, v1, v2, v3, rfl, hro, hb⟩
  rw [← WA.out] at hb
  have B5 := Lib.hid (below_step BB.out hb)
  have hQ := Q0.out.kept hb
  have q0 := hQ.at 0 rfl; have q1 := hQ.at 1 rfl; have q2 := hQ.at 2 rfl; have q3 := hQ.at 3 rfl; have qf := hQ.fz
  obtain ⟨⟨a0, c0, rfl⟩, ⟨a1, c1, rfl⟩, ⟨a2, c2, rfl⟩, ⟨a3, c3, rfl⟩⟩ := hro.shapes
  obtain ⟨n0, e0⟩ : ∃ n, r.W.length = n := ⟨_, rfl⟩
  obtain ⟨n1, e1⟩ : ∃ n, r.E.length = n := ⟨_, rfl⟩
  obtain ⟨n2, e2⟩ : ∃ n, r.H.length = n := ⟨_, rfl⟩
  obtain ⟨n3, e3⟩ : ∃ n, r.T.length = n := ⟨_, rfl⟩
  rw [e0, e1, e2, e3] at hro
  rw [e0, e1, e2, e3]
  have R5 := Lib.hid hro
  clear hQ hb hro e0 e1 e2 e3
  go_wp2
  have HF := Lib.hid ((((B5.out.setCell (p := ⟨w.heap.size, 0, none⟩) (Nat.le_refl _) (.slice a0 n0 c0)).setCell (p := ⟨w.heap.size, 1, none⟩) (Nat.le_refl _) (.slice a1 n1 c1)).setCell (p := ⟨w.heap.size, 2, none⟩) (Nat.le_refl _) (.slice a2 n2 c2)).setCell (p := ⟨w.heap.size, 3, none⟩) (Nat.le_refl _) (.slice a3 n3 c3))
  have HG := Lib.hid ((((R5.out.far ((Onl.refl w.heap.size _).setCell 0 (.slice a0 n0 c0)) (Nat.lt_succ_self _)).far ((Onl.refl w.heap.size _).setCell 1 (.slice a1 n1 c1)) (Nat.lt_succ_self _)).far ((Onl.refl w.heap.size _).setCell 2 (.slice a2 n2 c2)) (Nat.lt_succ_self _)).far ((Onl.refl w.heap.size _).setCell 3 (.slice a3 n3 c3)) (Nat.lt_succ_self _))
  refine bodyPost_ret (v := .tuple #[.agg #[.slice a0 n0 c0, .slice a1 n1 c1, .slice a2 n2 c2, .slice a3 n3 c3], .bool b]) ?_ rfl ?_
  · rw [results_cell_tmp rfl]
    go_simp
  · exact ⟨_, _, _, _, rfl, HG.out.mono (Nat.le_succ _), HF.out⟩
end Go.Proofs.YtncjkhdnpioinaaDoor

/- ReadRod: the law's walk. -/
namespace Go.Proofs.YtncjkhdnpioinaaDoor
open Go.RowKit
set_option linter.unusedVariables false

theorem rr_small (t : ByteArray) : (if rrOk t then rL (cutZ 59 t) else (⟨[], [], [], []⟩ : RL)).size ≤ 300 := by
  cases h : rrOk t with
  | false => exact Nat.zero_le _
  | true =>
    rw [if_pos rfl]
    unfold rrOk rOk at h
    simp only [Bool.and_eq_true] at h
    obtain ⟨⟨_, _, _, _, hv⟩, _⟩ := h
    unfold vRod lensOk at hv
    simp only [Bool.and_eq_true, decide_eq_true_eq, beq_iff_eq] at hv
    obtain ⟨⟨⟨⟨⟨_, h1⟩, h2⟩, h3⟩, h4⟩, _⟩ := hv
    unfold RL.size
    show (nlL _).length + (nlL _).length + (nlL _).length + (nlL _).length ≤ 300
    omega
set_option maxRecDepth 20000 in
set_option maxHeartbeats 6400000 in
theorem fnExactReadRod_walk (t : ByteArray) (w : World) (hw : t.size ≤ maxLen) (hM : MaxP w) : Calls Tryd.prog 6 #[.string t] w (Tru w) := by
  by_cases hs : t.size ≤ 1048576
  · have hd : decide (1048576 < (t.size : Int)) = false := decide_eq_false (by omega)
    have CS := Lib.hid (fun w1 => specReadRod_any t w1 hs)
    have CI := Lib.hid (fun w1 h1 => implReadRod_any t w1 hs h1)
    have HM := Lib.hid hM
    have HSm := Lib.hid (rr_small t)
    unfold RsB at CS
    unfold RrB at CI
    obtain ⟨b, hb⟩ : ∃ b, rrOk t = b := ⟨_, rfl⟩
    rw [hb] at CS CI HSm
    obtain ⟨r, hr⟩ : ∃ r, (if b = true then rL (cutZ 59 t) else ⟨[], [], [], []⟩) = r := ⟨_, rfl⟩
    rw [hr] at CS CI HSm
    have S2 : Hid (r.size ≤ 1048576) := Lib.hid (Nat.le_trans HSm.out (by decide))
    clear hw hM hs hb hr
    go_enter Tryd.func6, Tryd.ntmps6
    go_wp2_with fail
    refine (CS.out _).mono ?_
    rintro _ w1 ⟨s0, s1, s2, s3, rfl, hY, hb⟩
    obtain ⟨⟨xs0, cs0, e0⟩, ⟨xs1, cs1, e1⟩, ⟨xs2, cs2, e2⟩, ⟨xs3, cs3, e3⟩⟩ := hY.shapes
    obtain ⟨n0, f0⟩ : ∃ n, r.W.length = n := ⟨_, rfl⟩
    obtain ⟨n1, f1⟩ : ∃ n, r.E.length = n := ⟨_, rfl⟩
    obtain ⟨n2, f2⟩ : ∃ n, r.H.length = n := ⟨_, rfl⟩
    obtain ⟨n3, f3⟩ : ∃ n, r.T.length = n := ⟨_, rfl⟩
    have FF := Lib.hid (And.intro f0 (And.intro f1 (And.intro f2 f3)))
    rw [f0] at e0; rw [f1] at e1; rw [f2] at e2; rw [f3] at e3
    subst e0 e1 e2 e3
    have A := Lib.hid (Cells.made w1 [.slice xs0 n0 cs0, .slice xs1 n1 cs1, .slice xs2 n2 cs2, .slice xs3 n3 cs3] 41)
    have bA := below_al1 w1 (.cells [Value.slice xs0 n0 cs0, .slice xs1 n1 cs1, .slice xs2 n2 cs2, .slice xs3 n3 cs3].toArray 41)
    obtain ⟨wA, hwA⟩ : ∃ wA, w1.alloc (.cells [Value.slice xs0 n0 cs0, .slice xs1 n1 cs1, .slice xs2 n2 cs2, .slice xs3 n3 cs3].toArray 41) = wA := ⟨_, rfl⟩
    rw [hwA] at A bA
    have HWA := Lib.hid hwA
    have Y := Lib.hid ((hY.rrow S2.out).below bA)
    have Bw := Lib.hid (below_step hb bA)
    have HMA := Lib.hid (HM.out.below Bw.out)
    clear hY hb bA f0 f1 f2 f3 hwA
    go_wp2_with fail
    rw [show w1.alloc (.cells #[Value.slice xs0 n0 cs0, .slice xs1 n1 cs1, .slice xs2 n2 cs2, .slice xs3 n3 cs3] 41) = wA from HWA.out]
    refine (CI.out _ HMA.out).mono ?_
    rintro _ w2 ⟨g0, g1, g2, g3, rfl, hO, hb⟩
    obtain ⟨⟨xg0, cg0, e0⟩, ⟨xg1, cg1, e1⟩, ⟨xg2, cg2, e2⟩, ⟨xg3, cg3, e3⟩⟩ := hO.shapes
    obtain ⟨f0, f1, f2, f3⟩ := FF.out
    rw [f0] at e0; rw [f1] at e1; rw [f2] at e2; rw [f3] at e3
    subst e0 e1 e2 e3
    have G := Cells.made w2 [.slice xg0 n0 cg0, .slice xg1 n1 cg1, .slice xg2 n2 cg2, .slice xg3 n3 cg3] 41
    have bG := below_al1 w2 (.cells [Value.slice xg0 n0 cg0, .slice xg1 n1 cg1, .slice xg2 n2 cg2, .slice xg3 n3 cg3].toArray 41)
    obtain ⟨wG, hwG⟩ : ∃ wG, w2.alloc (.cells [Value.slice xg0 n0 cg0, .slice xg1 n1 cg1, .slice xg2 n2 cg2, .slice xg3 n3 cg3].toArray 41) = wG := ⟨_, rfl⟩
    rw [hwG] at G bG
    have HWG := Lib.hid hwG
    have U := Lib.hid (hO.toU.kept bG)
    have UU := Lib.hid bG.size
    have B3 := Lib.hid (below_step hb bG)
    have WW := Lib.hid (And.intro hb.size (And.intro A.out.lt G.lt))
    have GG := Lib.hid G
    have AA := Lib.hid (A.out.kept B3.out)
    have AS : Cells (w2.alloc (.cells #[Value.slice xg0 n0 cg0, .slice xg1 n1 cg1, .slice xg2 n2 cg2, .slice xg3 n3 cg3] 41)) w1.heap.size [.slice xs0 n0 cs0, .slice xs1 n1 cs1, .slice xs2 n2 cs2, .slice xs3 n3 cs3] := A.out.kept (below_step hb (below_al1 w2 _))
    have a0 := AS.at 0 rfl; have a1 := AS.at 1 rfl; have a2 := AS.at 2 rfl; have a3 := AS.at 3 rfl
    have EQ := Lib.hid (eqRod_any _ _ _ _ _ _ _ _ r r wG (U.out.rrow S2.out) (Y.out.below B3.out) (SameRL.refl r))
    clear hO hb G bG f0 f1 f2 f3 hwG AS
    go_wp2_with fail
    rw [show w2.alloc (.cells #[Value.slice xg0 n0 cg0, .slice xg1 n1 cg1, .slice xg2 n2 cg2, .slice xg3 n3 cg3] 41) = wG from HWG.out]
    refine EQ.out.mono ?_
    rintro _ w3 ⟨rfl, hb⟩
    have U3 := Lib.hid (U.out.kept hb)
    have G3 := Lib.hid (GG.out.kept hb)
    have A3 := Lib.hid (AA.out.kept hb)
    have B3 := Lib.hid (below_step B3.out hb)
    have hu3 := Lib.hid (show w2.heap.size ≤ w3.heap.size from Nat.le_trans UU.out hb.size)
    clear a0 a1 a2 a3 hb
    have c0 := G3.out.at 0 rfl; have c1 := G3.out.at 1 rfl; have c2 := G3.out.at 2 rfl; have c3 := G3.out.at 3 rfl
    go_wp2_with fail
    refine (markRodU U3.out hu3.out HSm.out).mono ?_
    rintro _ w4 ⟨rfl, hU, ht⟩
    have U4 := Lib.hid hU
    have A4 := Lib.hid (ht.cells A3.out (by intro e; have e' : wA.heap.size ≤ w1.heap.size ∧ w1.heap.size < w2.heap.size := e; have := WW.out.2.1; omega))
    have G4 := Lib.hid (ht.cells G3.out (by intro e; have e' : wA.heap.size ≤ w2.heap.size ∧ w2.heap.size < w2.heap.size := e; omega))
    have B4 := Lib.hid (B3.out.trans (ht.below (B := wA.heap.size) (fun k hk => hk.1) B3.out.size))
    have hu4 := Lib.hid (show w2.heap.size ≤ w4.heap.size from Nat.le_trans hu3.out ht.size)
    clear c0 c1 c2 c3 hU ht
    have c0 := G4.out.at 0 rfl; have c1 := G4.out.at 1 rfl; have c2 := G4.out.at 2 rfl; have c3 := G4.out.at 3 rfl
    go_wp2_with fail
    refine (heldRodU U4.out hu4.out HSm.out).mono ?_
    rintro _ w5 ⟨rfl, hb⟩
    have U5 := Lib.hid (U4.out.kept hb)
    have G5 := Lib.hid (G4.out.kept hb)
    have A5 := Lib.hid (A4.out.kept hb)
    have B5 := Lib.hid (below_step B4.out hb)
    have hu5 := Lib.hid (show w2.heap.size ≤ w5.heap.size from Nat.le_trans hu4.out hb.size)
    have CI5 := Lib.hid (CI.out w5 (HMA.out.below B5.out))
    clear c0 c1 c2 c3 hb
    go_wp2_with fail
    refine CI5.out.mono ?_
    rintro _ w6 ⟨g0, g1, g2, g3, rfl, hO, hb⟩
    obtain ⟨⟨xh0, ch0, e0⟩, ⟨xh1, ch1, e1⟩, ⟨xh2, ch2, e2⟩, ⟨xh3, ch3, e3⟩⟩ := hO.shapes
    obtain ⟨f0, f1, f2, f3⟩ := FF.out
    rw [f0] at e0; rw [f1] at e1; rw [f2] at e2; rw [f3] at e3
    subst e0 e1 e2 e3
    have H := Cells.made w6 [.slice xh0 n0 ch0, .slice xh1 n1 ch1, .slice xh2 n2 ch2, .slice xh3 n3 ch3] 41
    have bH := below_al1 w6 (.cells [Value.slice xh0 n0 ch0, .slice xh1 n1 ch1, .slice xh2 n2 ch2, .slice xh3 n3 ch3].toArray 41)
    obtain ⟨wH, hwH⟩ : ∃ wH, w6.alloc (.cells [Value.slice xh0 n0 ch0, .slice xh1 n1 ch1, .slice xh2 n2 ch2, .slice xh3 n3 ch3].toArray 41) = wH := ⟨_, rfl⟩
    rw [hwH] at H bH
    have HWH := Lib.hid hwH
    have b6 := below_step hb bH
    have R6 := (hO.rrow S2.out).below bH
    have U6 := Lib.hid (U5.out.kept b6)
    have G6 := Lib.hid (G5.out.kept b6)
    have A6 := Lib.hid (A5.out.kept b6)
    have B6 := Lib.hid (below_step B5.out b6)
    have hu6 := Lib.hid (show w2.heap.size ≤ wH.heap.size from Nat.le_trans hu5.out b6.size)
    have AS : Cells (w6.alloc (.cells #[Value.slice xh0 n0 ch0, .slice xh1 n1 ch1, .slice xh2 n2 ch2, .slice xh3 n3 ch3] 41)) w1.heap.size [.slice xs0 n0 cs0, .slice xs1 n1 cs1, .slice xs2 n2 cs2, .slice xs3 n3 cs3] := A5.out.kept (below_step hb (below_al1 w6 _))
    have a0 := AS.at 0 rfl; have a1 := AS.at 1 rfl; have a2 := AS.at 2 rfl; have a3 := AS.at 3 rfl
    have EQ2 := Lib.hid (eqRod_any _ _ _ _ _ _ _ _ r r wH R6 (Y.out.below B6.out) (SameRL.refl r))
    clear hO hb H bH b6 R6 AS f0 f1 f2 f3 hwH
    go_wp2_with fail
    rw [show w6.alloc (.cells #[Value.slice xh0 n0 ch0, .slice xh1 n1 ch1, .slice xh2 n2 ch2, .slice xh3 n3 ch3] 41) = wH from HWH.out]
    refine EQ2.out.mono ?_
    rintro _ w7 ⟨rfl, hb⟩
    have U7 := Lib.hid (U6.out.kept hb)
    have G7 := Lib.hid (G6.out.kept hb)
    have B7 := Lib.hid (below_step B6.out hb)
    have hu7 := Lib.hid (show w2.heap.size ≤ w7.heap.size from Nat.le_trans hu6.out hb.size)
    clear a0 a1 a2 a3 hb
    have c0 := G7.out.at 0 rfl; have c1 := G7.out.at 1 rfl; have c2 := G7.out.at 2 rfl; have c3 := G7.out.at 3 rfl
    go_wp2_with fail
    refine (heldRodU U7.out hu7.out HSm.out).mono ?_
    rintro _ w8 ⟨rfl, hb⟩
    have B8 := Lib.hid (below_step Bw.out (below_step B7.out hb))
    clear c0 c1 c2 c3 hb
    go_wp2
    go_ret
    exact Tru.below B8.out
  · have hd : decide (1048576 < (t.size : Int)) = true := decide_eq_true (by omega)
    go_enter Tryd.func6, Tryd.ntmps6
    go_wp2
    go_ret
    exact Tru.below (Below.refl _ _)
end Go.Proofs.YtncjkhdnpioinaaDoor

/- The wrap for a row that lists variables, with the world's shape at hand: what strings.Split and its like read of their own package is a number. -/
namespace Go.Proofs.YtncjkhdnpioinaaDoor
open Go.RowKit
set_option linter.unusedVariables false
theorem handed_and_shaped {H : Type} {enc : TypeId × Value → H} {a : Assume} {C : Checked} {os : Os} {f : FuncId} {fn : Func} {s : ChangeSpec} {conds : List PathCond} {apart fresh handsOn again : Bool} {X : World → Array Value → Prop}
    (hX : ∀ (w w' : World) (args : Array Value), w.heap = w'.heap → X w args → X w' args)
    (own : ownKnob C.prog.godebug = none) (started : os.Started) (noInit : C.prog.inits.idxOf? f = none) (hfn : C.prog.funcs[f]? = some fn)
    (witness : ∃ (w : World) (tape : Tape) (i : Input), w.os = os ∧ (w.forCall tape i).Shaped C.prog ∧ i.vars = [] ∧ Input.okWide C.prog (w.forCall tape i) .any w.heap.size f i ∧
      ((s.pre enc C.prog fn conds apart (w.forCall tape i).memory i.args ∧ X (w.forCall tape i).memory i.args) ∧ sizedMet enc C.prog fn (OpenSpec.ofChange s) apart (w.forCall tape i).memory i.args) ∧ a.holds C.prog (lone (Frame.enter C.prog f i.args .normal) [] (w.forCall tape i)))
    (go : ∀ (W : World) (base : Nat) (args : Array Value) (ds gs : List (DataW H)) (before : List MemPlace),
      (∀ (j : Nat) t v, fn.params[j]? = some t → args[j]? = some v → Value.okWide C.prog W .any base t v) →
      DataW.Whole enc C.prog fn.params.toList s.vars apart W args.toList ds gs before → X W args → W.ShapedOpen C.prog →
      Calls C.prog f args W fun e W' => ∃ v, e = .returned v ∧ s.post enc C.prog fn apart fresh handsOn again W args v W') :
    ReturnsInHanded a C os f .any (fun w args => (s.pre enc C.prog fn conds apart w args ∧ X w args) ∧ sizedMet enc C.prog fn (OpenSpec.ofChange s) apart w args) (s.post enc C.prog fn apart fresh handsOn again) := by
  refine returnsInHanded_of_calls own started noInit witness ?_
  rintro w tape i _ hsh _ ⟨_, _, _, fn', hfn', _, _, _, _, hval⟩ ⟨⟨⟨ds, gs, before, hw, _⟩, hx⟩, _⟩ _
  obtain rfl : fn' = fn := Option.some.inj (hfn'.symm.trans hfn)
  refine (go (w.forCall tape i) w.heap.size i.args ds gs before hval (DataW.Whole.of_heap (by rfl) hw) (hX _ _ _ (by rfl) hx) hsh).mono fun e W' he => ?_
  obtain ⟨v, rfl, hp⟩ := he
  exact ChangeSpec.post_blind hp
theorem maxP {w : World} (h : w.ShapedOpen Tryd.prog) : MaxP w :=
  cell_of_shapedOpen_int (t := 3) (zero := #[.int .i64 0]) h (by decide +kernel) (by kernel_rfl) (by kernel_rfl) (by kernel_rfl) (by kernel_rfl) Tryd.underlying3
end Go.Proofs.YtncjkhdnpioinaaDoor
