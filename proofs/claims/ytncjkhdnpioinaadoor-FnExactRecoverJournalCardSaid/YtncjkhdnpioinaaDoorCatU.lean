/- Whole lists of bytes appended; texts as bytes. -/
import Derived.Test.YtncjkhdnpioinaaDoorAppU
import Derived.Laws.BytesArg
import Derived.Laws.IdiomStrings
import Derived.ArgAppend
import Derived.Lib.SmallJoins
import Derived.Lib.Hide
namespace Go.Proofs.YtncjkhdnpioinaaDoor
open Go.RowKit
set_option linter.unusedVariables false

/-- a whole list appended -/
theorem wpList_catU {ops : Array Oper} {rest : List Oper} {o : Oper} {a : Act} {Q : Exit → Act → World → Prop} {w : World} (hgd : o.guard = none) (s x : Operand)
    (ho : o.op = .call { callee := .builtin .append, args := #[s, x], argTypes := #[141, 141] })
    (base : Nat) (v : Value) (zs ys : List Int) (hs : a.eval s = v) (hown : OwnU w base v zs) (q off c : Nat) (hx : a.eval x = .slice (some ⟨q, off, none⟩) ys.length c) (hq : ∀ i, i < ys.length → w.cell? ⟨q, off + i, none⟩ = some (.int .u8 (ys.getD i 0)))
    (hk : zs.length ≤ 1048576) (hk2 : ys.length ≤ 1048576) (hbase : base ≤ w.heap.size)
    (h : ∀ v' w', OwnU w' base v' (zs ++ ys) → Below base w w' → wpList Tryd.prog ops Q rest (a.put o.dst v') w') : wpList Tryd.prog ops Q (o :: rest) a w := by
  obtain ⟨i, hi, hz, hsz, hby⟩ := infoU
  have hm : maxLen = 9223372036854775807 := rfl
  refine wpList_append_own w hgd s x _ ho base 5 i (.int .u8 0) 1 1 Tryd.underlying141 hi hz hsz hby rfl (by decide) v zs.length (flu zs) hs hown ⟨q, off, none⟩ ys.length c (flu ys) hx (by simp [flu]) (fun j u hj => ?_) (fun u hu => ?_) (by omega) (by omega) hbase (fun v' w' h1 h2 _ => ?_)
  · have hjl : j < ys.length := by
      by_cases hl : j < ys.length
      · exact hl
      · rw [List.getElem?_eq_none (by simpa [flu] using hl)] at hj
        cases hj
    have e : u = .int .u8 (ys.getD j 0) := by
      simp [flu, hjl] at hj
      simp [← hj, List.getD_eq_getElem?_getD, hjl]
    rw [e]
    have h2 := hq j hjl
    by_cases hj0 : j = 0
    · subst hj0
      simpa [Addr.add] using h2
    · simpa [Addr.add, hj0] using h2
  · simp [flu] at hu
    obtain ⟨z, _, rfl⟩ := hu
    rfl
  · refine h v' w' ?_ ((Below.refl base w).grown h2 hbase (fun k hk => (World.ownsRow.lt hown k hk).1))
    unfold OwnU
    simpa [flu] using h1


theorem OwnU.lit (w : World) (base : Nat) (hb : base ≤ w.heap.size) (a b c d : Int) : OwnU (w.alloc (.cells #[.int .u8 a, .int .u8 b, .int .u8 c, .int .u8 d] 5)) base (.slice (some ⟨w.heap.size, 0, none⟩) 4 4) [a, b, c, d] :=
  World.ownsRow_lit (w := w) (base := base) (e := 5) (size := 1) #[.int .u8 a, .int .u8 b, .int .u8 c, .int .u8 d] 4 hb (by decide) rfl
/-- a text's bytes as integers -/
def nums (s : ByteArray) : List Int := s.data.toList.map fun b => (b.toNat : Int)
theorem nums_len (s : ByteArray) : (nums s).length = s.size := by
  unfold nums; rw [List.length_map, Array.length_toList]; rfl
theorem str_nums (s : ByteArray) : strOfNums (nums s) = s := by
  obtain ⟨d⟩ := s
  unfold strOfNums nums
  congr 1
  rw [List.map_map]
  have : ((fun n : Int => UInt8.ofNat n.toNat) ∘ fun b : UInt8 => (b.toNat : Int)) = id := by funext b; simp
  rw [this]; simp
theorem str_app (xs ys : List Int) : strOfNums (xs ++ ys) = strOfNums xs ++ strOfNums ys := by
  unfold strOfNums
  apply ByteArray.ext
  simp
theorem nums_str {xs : List Int} (h : ∀ x ∈ xs, 0 ≤ x ∧ x < 256) : nums (strOfNums xs) = xs := by
  unfold nums
  rw [strOfNums_data, List.map_map]
  refine (List.map_congr_left (fun x hx => ?_)).trans (List.map_id _)
  have := h x hx
  simp
  omega
/-- the row that a text's bytes make -/
theorem bytes_cell (w : World) (s : ByteArray) (fz : Nat × Nat) (cap : Nat) (i : Nat) (hi : i < (nums s).length) : (w.alloc (.cells (bytesRow s cap) 5 fz)).cell? ⟨w.heap.size, 0 + i, none⟩ = some (.int .u8 ((nums s).getD i 0)) := by
  rw [nums_len] at hi
  have hd : i < s.data.size := hi
  have h1 : (s.data.toList.map (fun b : UInt8 => (b.toNat : Int)))[i]? = some (s.data[i].toNat : Int) := by
    rw [List.getElem?_map, List.getElem?_eq_getElem (by simpa using hd)]; simp
  have hn : (nums s).getD i 0 = (s.data[i].toNat : Int) := by
    unfold nums; rw [List.getD_eq_getElem?_getD, h1]; rfl
  have hb : (w.alloc (.cells (bytesRow s cap) 5 fz)).heap[w.heap.size]? = some (.cells (bytesRow s cap) 5 fz) := by
    show (w.heap.push _)[_]? = _; simp
  have hr : (bytesRow s cap)[i]? = some (.int .u8 (s.data[i].toNat : Int)) := by
    unfold bytesRow
    rw [Array.getElem?_append_left (by simpa using hd)]
    simp only [Array.getElem?_map, Array.getElem?_eq_getElem hd, Option.map_some]
  rw [hn, Nat.zero_add]
  simp only [World.cell?, hb]
  simpa using hr
theorem wpList_head {ops : Array Oper} {rest : List Oper} {o : Oper} {a : Act} {Q : Exit → Act → World → Prop} {w : World} (hgd : o.guard = none) (s x : Operand)
    (ho : o.op = .call { callee := .builtin .append, args := #[s, x], argTypes := #[141, 141] })
    (p : Nat) (hs : a.eval s = .slice (some ⟨p, 0, none⟩) 4 4) (b c d e : Int) (hb : w.cell? ⟨p, 0, none⟩ = some (.int .u8 b)) (hc : w.cell? ⟨p, 1, none⟩ = some (.int .u8 c)) (hd : w.cell? ⟨p, 2, none⟩ = some (.int .u8 d)) (he : w.cell? ⟨p, 3, none⟩ = some (.int .u8 e))
    (q n : Nat) (z : Int) (hx : a.eval x = .slice (some ⟨q, 0, none⟩) 1 n) (hq : w.cell? ⟨q, 0, none⟩ = some (.int .u8 z))
    (h : ∀ v' w', OwnU w' w.heap.size v' ([b, c, d, e] ++ [z]) → Below w.heap.size w w' → wpList Tryd.prog ops Q rest (a.put o.dst v') w') : wpList Tryd.prog ops Q (o :: rest) a w := by
  obtain ⟨i, hi, hz, hsz, hby⟩ := infoU
  refine wpList_append_grows w hgd s x 141 ho 5 i (.int .u8 0) 1 1 Tryd.underlying141 hi hz hsz hby rfl (by decide) (some ⟨p, 0, none⟩) 4 4 [.int .u8 b, .int .u8 c, .int .u8 d, .int .u8 e] hs (by intro h; cases h) rfl (fun bb hbb j u hj => ?_) ⟨q, 0, none⟩ 1 n [.int .u8 z] hx rfl (fun j u hj => ?_) (fun u hu => ?_) (by decide) (by decide) (by decide) (fun v' w' h1 h2 => ?_)
  · cases hbb
    match j, hj with
    | 0, hj => cases hj; simpa [Addr.add] using hb
    | 1, hj => cases hj; simpa [Addr.add] using hc
    | 2, hj => cases hj; simpa [Addr.add] using hd
    | 3, hj => cases hj; simpa [Addr.add] using he
    | j + 4, hj => simp at hj
  · cases j with
    | zero => simp at hj; subst hj; simpa [Addr.add] using hq
    | succ j => simp at hj
  · simp at hu; subst hu; rfl
  · exact h v' w' h1 ((Below.refl w.heap.size w).grown h2 (Nat.le_refl _) (fun _ hk => by cases hk))

end Go.Proofs.YtncjkhdnpioinaaDoor
