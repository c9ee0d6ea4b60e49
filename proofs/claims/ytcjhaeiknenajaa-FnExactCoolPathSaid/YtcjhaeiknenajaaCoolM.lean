/- The path to cooler cells, in numbers. -/
import Derived.Test.YtcjhaeiknenajaaFlowW
import Derived.Test.YtcjhaeiknenajaaNbL
import Derived.Test.YtcjhaeiknenajaaLawJ
import Derived.Test.YtcjhaeiknenajaaPRange
namespace Go.Proofs.Ytcjhaeiknenajaa
open Go.RowKit
set_option linter.unusedVariables false

/-- is a cell cooler than another -/
def cw (r : PL) (a b : Nat) : Bool := FloatKind.f32.format.order (r.W.getD a 0) (r.W.getD b 0) == some Ordering.lt
def kw (r : PL) (a : Nat) : Int := key FloatKind.f32.format (r.W.getD a 0)
theorem cw_iff {r : PL} {n a b : Nat} (hf : ∀ k, k < n → fin .f32 (r.W.getD k 0) = true) (ha : a < n) (hb : b < n) : cw r a b = true ↔ kw r a < kw r b := by
  unfold cw kw
  rw [ord_key, finP_nn (hf a ha), finP_nn (hf b hb)]
  simp only [Bool.or_self, Bool.false_eq_true, if_false]
  generalize key FloatKind.f32.format (r.W.getD a 0) = u
  generalize key FloatKind.f32.format (r.W.getD b 0) = v
  simp only [compare, compareOfLessAndEq]
  by_cases h : u < v
  · rw [if_pos h]; simp [h]
  · rw [if_neg h]
    by_cases h2 : u = v
    · rw [if_pos h2]; simp [h]
    · rw [if_neg h2]; simp [h]
/-- the coolest one of a cell and its neighbours at the first sides -/
def cl (r : PL) (x z k : Nat) : Nat → Nat
  | 0 => k
  | j + 1 => bif decide (0 ≤ nbr x z k j) && cw r (nbr x z k j).toNat (cl r x z k j) then (nbr x z k j).toNat else cl r x z k j
theorem cl_no {r : PL} {x z k j : Nat} (h : ¬ 0 ≤ nbr x z k j) : cl r x z k (j + 1) = cl r x z k j := by
  show (bif decide (0 ≤ nbr x z k j) && cw r (nbr x z k j).toNat (cl r x z k j) then (nbr x z k j).toNat else cl r x z k j) = _
  rw [decide_eq_false h]; rfl
theorem cl_m {r : PL} {x z k j m : Nat} (h : nbr x z k j = (m : Int)) : cl r x z k (j + 1) = bif cw r m (cl r x z k j) then m else cl r x z k j := by
  show (bif decide (0 ≤ nbr x z k j) && cw r (nbr x z k j).toNat (cl r x z k j) then (nbr x z k j).toNat else cl r x z k j) = _
  rw [h, decide_eq_true (by omega)]; rfl
def stp (r : PL) (c : Nat) (m : Int) : Nat := bif cw r m.toNat c then m.toNat else c
theorem cl_fold (r : PL) (x z k : Nat) : ∀ j, cl r x z k j = (nbL x z k j).foldl (stp r) k
  | 0 => rfl
  | j + 1 => by
    by_cases h : 0 ≤ nbr x z k j
    · rw [nbL_yes h, List.foldl_append, ← cl_fold r x z k j]
      obtain ⟨m, hm⟩ : ∃ m : Nat, nbr x z k j = (m : Int) := ⟨(nbr x z k j).toNat, by omega⟩
      rw [cl_m hm, hm]; rfl
    · rw [nbL_no h, cl_no h]; exact cl_fold r x z k j
theorem cl_lt {r : PL} {x y z n k : Nat} (S : Sd r x y n) (hz : x * (y - 1) = z) (hk : k < n) : ∀ j, cl r x z k j < n
  | 0 => hk
  | j + 1 => by
    by_cases h : 0 ≤ nbr x z k j
    · obtain ⟨m, hm, hmn⟩ := nbr_nat S hz hk j h
      rw [cl_m hm]
      cases cw r m (cl r x z k j)
      · exact cl_lt S hz hk j
      · exact hmn
    · rw [cl_no h]; exact cl_lt S hz hk j
theorem cl_cool {r : PL} {x y z n k : Nat} (S : Sd r x y n) (hz : x * (y - 1) = z) (hk : k < n) (hf : ∀ k, k < n → fin .f32 (r.W.getD k 0) = true) : ∀ j, cl r x z k j = k ∨ kw r (cl r x z k j) < kw r k
  | 0 => .inl rfl
  | j + 1 => by
    have ih := cl_cool S hz hk hf j
    by_cases h : 0 ≤ nbr x z k j
    · obtain ⟨m, hm, hmn⟩ := nbr_nat S hz hk j h
      rw [cl_m hm]
      cases e : cw r m (cl r x z k j)
      · exact ih
      · have := (cw_iff hf hmn (cl_lt S hz hk j)).1 e
        rw [cond_true]
        rcases ih with ih | ih
        · rw [ih] at this; exact .inr this
        · exact .inr (by omega)
    · rw [cl_no h]; exact ih
/-- the next one -/
def nx (r : PL) (k : Nat) : Nat := cl r r.X.toNat (r.X.toNat * (r.Y.toNat - 1)) k 4
theorem nx_lt {r : PL} {n k : Nat} (hl : PlN r n) (hk : k < n) : nx r k < n := cl_lt (Sd.std hl) rfl hk 4
theorem countP_lt {α : Type} {p q : α → Bool} : ∀ {l : List α}, (∀ a ∈ l, p a = true → q a = true) → (∃ a ∈ l, q a = true ∧ p a = false) → l.countP p < l.countP q
  | [], _, ⟨a, h, _⟩ => by cases h
  | b :: l, himp, ⟨a, ha, hq, hp⟩ => by
    have mono : l.countP p ≤ l.countP q := List.countP_mono_left fun x hx h => himp x (List.mem_cons_of_mem _ hx) h
    by_cases e : ∃ a ∈ l, q a = true ∧ p a = false
    · have ih := countP_lt (l := l) (fun x hx => himp x (List.mem_cons_of_mem _ hx)) e
      rw [List.countP_cons, List.countP_cons]
      cases hb : p b
      · simp; split <;> omega
      · rw [himp b (List.mem_cons_self ..) hb]; simp; omega
    · have hab : a = b := by
        rcases List.mem_cons.1 ha with h | h
        · exact h
        · exact absurd ⟨a, h, hq, hp⟩ e
      subst hab
      rw [List.countP_cons, List.countP_cons, hq, hp]
      simp; omega
/-- how many cells are cooler -/
def rank (r : PL) (n k : Nat) : Nat := (List.range n).countP fun j => decide (kw r j < kw r k)
theorem rank_le (r : PL) (n k : Nat) : rank r n k ≤ n := by
  unfold rank
  have := List.countP_le_length (p := fun j => decide (kw r j < kw r k)) (l := List.range n)
  simpa using this
theorem rank_lt {r : PL} {n a b : Nat} (ha : a < n) (h : kw r a < kw r b) : rank r n a < rank r n b := by
  unfold rank
  refine countP_lt (fun j _ hj => ?_) ⟨a, by simpa using ha, by simpa using h, by simp⟩
  simp only [decide_eq_true_eq] at hj ⊢
  omega
theorem nx_rank {r : PL} {n k : Nat} (hl : PlN r n) (hf : ∀ k, k < n → fin .f32 (r.W.getD k 0) = true) (hk : k < n) (h : ¬ nx r k = k) : rank r n (nx r k) < rank r n k := by
  rcases cl_cool (Sd.std hl) rfl hk hf 4 with e | e
  · exact absurd e h
  · exact rank_lt (nx_lt hl hk) e
/-- the path -/
def pth (r : PL) : Nat → Nat → List Int
  | 0, k => [(k : Int)]
  | f + 1, k => if nx r k = k then [(k : Int)] else (k : Int) :: pth r f (nx r k)
theorem pth_len (r : PL) : ∀ f k, (pth r f k).length ≤ f + 1
  | 0, k => Nat.le_refl _
  | f + 1, k => by
    unfold pth
    split
    · simp
    · have := pth_len r f (nx r k)
      simp; omega
theorem pth_pos (r : PL) : ∀ f k, 1 ≤ (pth r f k).length
  | 0, k => Nat.le_refl _
  | f + 1, k => by
    unfold pth
    split <;> simp
theorem pth_fuel {r : PL} {n : Nat} (hl : PlN r n) (hf : ∀ k, k < n → fin .f32 (r.W.getD k 0) = true) : ∀ f g k, k < n → rank r n k ≤ f → rank r n k ≤ g → pth r f k = pth r g k
  | 0, 0, k, _, _, _ => rfl
  | 0, g + 1, k, hk, h1, h2 => by
    unfold pth
    by_cases e : nx r k = k
    · rw [if_pos e]
    · have := nx_rank hl hf hk e; omega
  | f + 1, 0, k, hk, h1, h2 => by
    unfold pth
    by_cases e : nx r k = k
    · rw [if_pos e]
    · have := nx_rank hl hf hk e; omega
  | f + 1, g + 1, k, hk, h1, h2 => by
    unfold pth
    by_cases e : nx r k = k
    · rw [if_pos e, if_pos e]
    · rw [if_neg e, if_neg e]
      have := nx_rank hl hf hk e
      rw [pth_fuel hl hf f g (nx r k) (nx_lt hl hk) (by omega) (by omega)]
theorem pth_end {r : PL} {n k : Nat} (h1 : 1 ≤ n) (e : nx r k = k) : pth r n k = [(k : Int)] := by
  obtain ⟨m, rfl⟩ : ∃ m, n = m + 1 := ⟨n - 1, by omega⟩
  unfold pth
  rw [if_pos e]
theorem pth_step {r : PL} {n k : Nat} (hl : PlN r n) (hf : ∀ k, k < n → fin .f32 (r.W.getD k 0) = true) (hk : k < n) (e : ¬ nx r k = k) : pth r n k = (k : Int) :: pth r n (nx r k) := by
  have h1 := hl.p
  have hr := nx_rank hl hf hk e
  have hle := rank_le r n k
  obtain ⟨m, hm⟩ : ∃ m, n = m + 1 := ⟨n - 1, by omega⟩
  have := pth_fuel hl hf m n (nx r k) (nx_lt hl hk) (by omega) (rank_le r n _)
  rw [← this]
  conv => lhs; rw [hm]
  show (if nx r k = k then [(k : Int)] else (k : Int) :: pth r m (nx r k)) = _
  rw [if_neg e]
def cpS (r : PL) (i : Int) : List Int := bif okC r i then pth r r.W.length i.toNat else []
theorem lenCoolPath (r : PL) (i : Int) : (cpS r i).length ≤ 200 := by
  unfold cpS
  cases h : okC r i
  · simp
  · have h9 := (PlN.ofV (okC_nat h).1).q
    have := pth_len r r.W.length i.toNat
    rw [cond_true]; omega
theorem OwnJ.lit1 (w : World) (base : Nat) (hb : base ≤ w.heap.size) (v : Int) : OwnJ (w.alloc (.cells #[.int .i64 v] 2)) base (.slice (some ⟨w.heap.size, 0, none⟩) 1 1) [v] :=
  World.ownsRow_lit (w := w) (base := base) (e := 2) (size := 1) #[.int .i64 v] 1 hb (by decide) rfl
end Go.Proofs.Ytcjhaeiknenajaa
