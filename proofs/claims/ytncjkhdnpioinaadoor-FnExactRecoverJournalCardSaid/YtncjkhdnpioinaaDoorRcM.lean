/- Journals recovered: what is recovered, part by part; and a text that begins with an entry. No program stands in this text. -/
import Derived.Test.YtncjkhdnpioinaaDoorCutZ
import Derived.Lib.ItoaNum
import Derived.Lib.Strings
import Derived.Lib.IndexMore
namespace Go.Proofs.YtncjkhdnpioinaaDoor
open Go
set_option linter.unusedVariables false

/-- where the first blank stands, and what stands ahead of it and behind it -/
theorem pre_same (a b : UInt8) : ∀ (d l x y : List UInt8), a ∉ d → a ∉ l → (d ++ a :: x) <+: (l ++ a :: y) → d = l
  | [], [], _, _, _, _, _ => rfl
  | [], c :: l, x, y, _, hl, h => by
    simp only [List.nil_append, List.cons_append, List.cons_prefix_cons] at h
    exact absurd (by rw [h.1]; simp) hl
  | c :: d, [], x, y, hd, _, h => by
    simp only [List.nil_append, List.cons_append, List.cons_prefix_cons] at h
    exact absurd (by rw [h.1]; simp) hd
  | c :: d, e :: l, x, y, hd, hl, h => by
    simp only [List.cons_append, List.cons_prefix_cons] at h
    rw [h.1, pre_same a b d l x y (fun m => hd (List.mem_cons_of_mem _ m)) (fun m => hl (List.mem_cons_of_mem _ m)) h.2]
theorem pre_part (a b : UInt8) (hab : a ≠ b) : ∀ (d l x y : List UInt8), b ∉ d → a ∉ l → ¬ (d ++ a :: x) <+: (l ++ b :: y)
  | [], [], _, _, _, _, h => by
    simp only [List.nil_append, List.cons_prefix_cons] at h
    exact hab h.1
  | [], c :: l, x, y, _, hl, h => by
    simp only [List.nil_append, List.cons_append, List.cons_prefix_cons] at h
    exact hl (by rw [h.1]; simp)
  | c :: d, [], x, y, hd, _, h => by
    simp only [List.nil_append, List.cons_append, List.cons_prefix_cons] at h
    exact hd (by rw [h.1]; simp)
  | c :: d, e :: l, x, y, hd, hl, h => by
    simp only [List.cons_append, List.cons_prefix_cons] at h
    exact pre_part a b hab d l x y (fun m => hd (List.mem_cons_of_mem _ m)) (fun m => hl (List.mem_cons_of_mem _ m)) h.2
theorem dec_digits (u : Nat) : ∀ c ∈ Lib.decDigits u, 48 ≤ c.toNat := by
  rw [Lib.decDigits_eq]
  intro c hc
  simp only [List.mem_map] at hc
  obtain ⟨t, _, rfl⟩ := hc
  unfold Lib.dg
  rw [UInt8.toNat_ofNat']
  have : u / 10 ^ (Lib.nDigits u - 1 - t) % 10 < 10 := Nat.mod_lt _ (by decide)
  omega
theorem itoa_no (n : Int) (h : 0 ≤ n) (a : UInt8) (ha : a.toNat < 48) : a ∉ Lib.itoa n := by
  intro hm
  unfold Lib.itoa at hm
  rw [if_neg (by omega)] at hm
  have := dec_digits _ a hm
  omega

/-- the place of the first blank, or the length -/
def blk (l : List UInt8) : Nat := (l.takeWhile (· != 32)).length
theorem blk_le (l : List UInt8) : blk l ≤ l.length := by
  unfold blk
  have h := congrArg List.length (List.takeWhile_append_dropWhile (p := (· != 32)) (l := l))
  rw [List.length_append] at h
  omega
theorem blk_first {l : List UInt8} {i : Nat} (h : ∀ j : Nat, j < i → l[j]? ≠ some 32) (hi : l[i]? = some 32) : blk l = i := by
  induction l generalizing i with
  | nil => simp at hi
  | cons a t ih =>
    unfold blk
    cases i with
    | zero =>
      have : a = 32 := by simpa using hi
      subst this
      simp
    | succ i =>
      have h0 : a ≠ 32 := by simpa using h 0 (by omega)
      have e : (a != 32) = true := by simpa using h0
      rw [List.takeWhile_cons, e, if_pos rfl]
      have := ih (i := i) (fun j hj => by simpa using h (j + 1) (by omega)) (by simpa using hi)
      unfold blk at this
      simp [this]
theorem blk_none {l : List UInt8} (h : ∀ j : Nat, j < l.length → l[j]? ≠ some 32) : blk l = l.length := by
  induction l with
  | nil => rfl
  | cons a t ih =>
    unfold blk
    have h0 : a ≠ 32 := by simpa using h 0 (by simp)
    have e : (a != 32) = true := by simpa using h0
    rw [List.takeWhile_cons, e, if_pos rfl]
    have := ih (fun j hj => by simpa using h (j + 1) (by simpa using hj))
    unfold blk at this
    simp [this]
/-- what stands behind the first blank -/
def lnOf (L : ByteArray) : ByteArray := L.extract (blk L.data.toList + 1) L.size
theorem ex_list (s : ByteArray) (a b : Nat) : (s.extract a b).data.toList = (s.data.toList.drop a).take (b - a) := Lib.extract_data s a b
theorem lnOf_list (L : ByteArray) : (lnOf L).data.toList = L.data.toList.drop (blk L.data.toList + 1) := by
  unfold lnOf
  rw [Lib.extract_to_end]
theorem split_at {l : List UInt8} {i : Nat} {a : UInt8} (hi : l[i]? = some a) : l = l.take i ++ a :: l.drop (i + 1) := by
  have hlt := lt_of_at hi
  rw [List.getElem?_eq_getElem hlt] at hi
  have e : l[i] = a := by simpa using hi
  rw [← e, List.getElem_cons_drop]
  exact (List.take_append_drop i l).symm
theorem not_in_take {l : List UInt8} {i : Nat} {a : UInt8} (h : ∀ j : Nat, j < i → l[j]? ≠ some a) : a ∉ l.take i := by
  intro hm
  obtain ⟨j, hj, e⟩ := List.getElem_of_mem hm
  have hj' : j < i := by simp at hj; omega
  refine h j hj' ?_
  rw [← e, List.getElem_take]
  exact List.getElem?_eq_getElem _
theorem not_in {l : List UInt8} {a : UInt8} (h : ∀ j : Nat, j < l.length → l[j]? ≠ some a) : a ∉ l := by
  intro hm
  obtain ⟨j, hj, e⟩ := List.getElem_of_mem hm
  exact h j hj (by rw [← e]; exact List.getElem?_eq_getElem _)

section
variable (ck : ByteArray → Int → Int)
/-- a part that is an entry behind a check number -/
def okP (c : Int) (L : ByteArray) : Bool := decide (blk L.data.toList < L.size) && (L.data.toList.take (blk L.data.toList) == Lib.itoa (ck (lnOf L) c))
/-- the lines that are recovered of parts, and how long their journal is -/
def rcv : List ByteArray → Int → List ByteArray × Nat
  | [], _ => ([], 0)
  | L :: r, c => if okP ck c L then (lnOf L :: (rcv r (ck (lnOf L) c)).1, L.size + 1 + (rcv r (ck (lnOf L) c)).2) else ([], 0)
def linP (s : ByteArray) : List ByteArray := (cutZ 10 s).dropLast
def psum (l : List ByteArray) : Nat := (l.map fun z => z.size + 1).sum
theorem linP_none {s : ByteArray} (h : ∀ j, j < s.size → s.data.toList[j]? ≠ some 10) : linP s = [] := by
  unfold linP; rw [cutZ_none h]; rfl
theorem linP_at {s : ByteArray} {i : Nat} (h : ∀ j, j < i → s.data.toList[j]? ≠ some 10) (hi : s.data.toList[i]? = some 10) : linP s = s.extract 0 i :: linP (s.extract (i + 1) s.size) := by
  unfold linP
  rw [cutZ_at h hi]
  refine List.dropLast_cons_of_ne_nil ?_
  intro e
  have := cutZ_length 10 (s.extract (i + 1) s.size)
  rw [e] at this
  simp at this
theorem psum_le : ∀ (n : Nat) (s : ByteArray), s.size ≤ n → psum (linP s) ≤ s.size := by
  intro n
  induction n with
  | zero =>
    intro s hs
    rw [linP_none (fun j hj => by omega)]
    exact Nat.zero_le _
  | succ n ih =>
    intro s hs
    have hsz := Lib.size_eq s
    rcases first_mark 10 s.data.toList with h | ⟨i, h, hi⟩
    · rw [linP_none (fun j hj => h j (by omega))]
      exact Nat.zero_le _
    · have hlt := lt_of_at hi
      rw [linP_at h hi]
      have := ih (s.extract (i + 1) s.size) (by rw [size_ex]; omega)
      rw [size_ex] at this
      have e : (s.extract 0 i).size = i := by rw [Lib.size_eq, ex_list]; simp; omega
      unfold psum at this ⊢
      rw [List.map_cons, List.sum_cons, e]
      omega
/-- what has been recovered, and what is still to come -/
structure RcSt (t : ByteArray) (done : List ByteArray) (n : Nat) (parts : List ByteArray) (c : Int) : Prop where
  all : rcv ck (linP t) 0 = (done ++ (rcv ck parts c).1, n + (rcv ck parts c).2)
  len : done.length ≤ n
  bd : n + psum parts ≤ t.size
theorem RcSt.start (t : ByteArray) : RcSt ck t [] 0 (linP t) 0 := ⟨by simp, Nat.le_refl _, by have := psum_le t.size t (Nat.le_refl _); omega⟩
theorem RcSt.yes {t : ByteArray} {done parts : List ByteArray} {n : Nat} {L : ByteArray} {c : Int} (h : RcSt ck t done n (L :: parts) c) (ho : okP ck c L = true) : RcSt ck t (done ++ [lnOf L]) (n + (L.size + 1)) parts (ck (lnOf L) c) := by
  obtain ⟨h1, h2, h3⟩ := h
  refine ⟨?_, by simp; omega, by unfold psum at h3 ⊢; rw [List.map_cons, List.sum_cons] at h3; omega⟩
  rw [h1]
  simp only [rcv, ho, if_true]
  simp
  omega
theorem RcSt.no {t : ByteArray} {done parts : List ByteArray} {n : Nat} {L : ByteArray} {c : Int} (h : RcSt ck t done n (L :: parts) c) (ho : okP ck c L = false) : rcv ck (linP t) 0 = (done, n) := by
  rw [h.all]
  simp [rcv, ho]
theorem RcSt.nil {t : ByteArray} {done : List ByteArray} {n : Nat} {c : Int} (h : RcSt ck t done n [] c) : rcv ck (linP t) 0 = (done, n) := by
  rw [h.all]
  simp [rcv]

/-- the bytes of an entry -/
def entL (c : Int) (l : List UInt8) : List UInt8 := Lib.itoa c ++ 32 :: (l ++ [10])
theorem pf_none {s : List UInt8} {c : Int} {l : List UInt8} (h : ∀ j : Nat, j < s.length → s[j]? ≠ some 10) : Lib.hasPrefix s (entL c l) = false := by
  cases e : Lib.hasPrefix s (entL c l) with
  | false => rfl
  | true =>
    have hp : entL c l <+: s := List.isPrefixOf_iff_prefix.1 e
    exact absurd (hp.subset (by unfold entL; simp)) (not_in h)
theorem pf_at {s L : ByteArray} {i : Nat} {c : Int} (hc : 0 ≤ ck (lnOf L) c) (h : ∀ j : Nat, j < i → s.data.toList[j]? ≠ some 10) (hi : s.data.toList[i]? = some 10) (hL : L = s.extract 0 i) (hb : blk L.data.toList < L.size) (h32 : L.data.toList[blk L.data.toList]? = some 32) (hf : ∀ j : Nat, j < blk L.data.toList → L.data.toList[j]? ≠ some 32) :
    Lib.hasPrefix s.data.toList (entL (ck (lnOf L) c) (lnOf L).data.toList) = okP ck c L := by
  have e0 : L.data.toList = s.data.toList.take i := by rw [hL, ex_list]; simp
  have e1 := split_at hi
  have e2 := split_at h32
  unfold okP
  rw [decide_eq_true hb, Bool.true_and]
  rw [lnOf_list]
  generalize hk : blk L.data.toList = k at *
  generalize ck (lnOf L) c = n at *
  generalize hx : L.data.toList = x at *
  rw [Bool.eq_iff_iff]
  unfold Lib.hasPrefix entL
  rw [List.isPrefixOf_iff_prefix, beq_iff_eq, e1, ← e0]
  constructor
  · intro hp
    rw [e2] at hp
    rw [List.append_assoc, List.cons_append] at hp
    exact (pre_same 32 10 _ _ _ _ (itoa_no n hc 32 (by decide)) (not_in_take hf) hp).symm
  · intro he
    rw [← he]
    refine ⟨s.data.toList.drop (i + 1), ?_⟩
    conv => rhs; rw [e2]
    simp
theorem pf_blank {s L : ByteArray} {i : Nat} {n : Int} {l : List UInt8} (hc : 0 ≤ n) (h : ∀ j : Nat, j < i → s.data.toList[j]? ≠ some 10) (hi : s.data.toList[i]? = some 10) (hL : L = s.extract 0 i) (hf : ∀ j : Nat, j < L.data.toList.length → L.data.toList[j]? ≠ some 32) :
    Lib.hasPrefix s.data.toList (entL n l) = false := by
  have e0 : L.data.toList = s.data.toList.take i := by rw [hL, ex_list]; simp
  have e1 := split_at hi
  cases e : Lib.hasPrefix s.data.toList (entL n l) with
  | false => rfl
  | true =>
    have hp : entL n l <+: s.data.toList := List.isPrefixOf_iff_prefix.1 e
    unfold entL at hp
    rw [e1, ← e0] at hp
    exact absurd hp (pre_part 32 10 (by decide) _ _ _ _ (itoa_no n hc 10 (by decide)) (not_in hf))
theorem ok_len {L : ByteArray} {c : Int} (h : okP ck c L = true) : (entL (ck (lnOf L) c) (lnOf L).data.toList).length = L.size + 1 := by
  unfold okP at h
  rw [Bool.and_eq_true, decide_eq_true_eq, beq_iff_eq] at h
  have hsz := Lib.size_eq L
  unfold entL
  rw [← h.2, lnOf_list]
  simp
  omega
theorem ok_blank {c : Int} {L : ByteArray} (hf : ∀ j : Nat, j < L.data.toList.length → L.data.toList[j]? ≠ some 32) : okP ck c L = false := by
  unfold okP
  rw [blk_none hf, decide_eq_false (by have := Lib.size_eq L; omega), Bool.false_and]
end
end Go.Proofs.YtncjkhdnpioinaaDoor
