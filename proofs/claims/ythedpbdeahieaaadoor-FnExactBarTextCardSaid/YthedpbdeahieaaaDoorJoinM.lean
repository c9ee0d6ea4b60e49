/- Texts with commas between them. No program stands in this text. -/
import Derived.Lib.Join
namespace Go.Proofs.YthedpbdeahieaaaDoor
open Go

/-- texts with a mark between them -/
def jn (c : UInt8) (xs : List ByteArray) : ByteArray := ⟨(Lib.join (xs.map (·.data.toList)) [c]).toArray⟩
theorem ba_ext {a b : ByteArray} (h : a.data.toList = b.data.toList) : a = b := by
  apply ByteArray.ext; exact Array.toList_inj.1 h
theorem jn_one (c : UInt8) (x : ByteArray) : jn c [x] = x := by
  apply ba_ext
  unfold jn
  simp [Lib.join_one]
theorem jn_snoc (c : UInt8) (xs : List ByteArray) (y : ByteArray) (h : xs ≠ []) : jn c (xs ++ [y]) = jn c xs ++ ((⟨#[c]⟩ : ByteArray) ++ y) := by
  cases xs with
  | nil => exact absurd rfl h
  | cons x r =>
    apply ba_ext
    unfold jn
    simp [Lib.join_cons, Lib.joinTail]
theorem lens_le (b : Nat) : ∀ (xs : List ByteArray), (∀ x ∈ xs, x.size ≤ b) → Lib.lens (xs.map (·.data.toList)) ≤ b * xs.length
  | [], _ => by simp [Lib.lens]
  | x :: r, h => by
    have h1 := h x (by simp)
    have h2 := lens_le b r (fun y hy => h y (by simp [hy]))
    have h3 : x.data.toList.length = x.size := by rw [Array.length_toList]; rfl
    simp only [Lib.lens, List.map_cons, List.sum_cons, List.length_cons] at *
    rw [Nat.mul_succ]
    omega
theorem jn_len (c : UInt8) (b : Nat) (xs : List ByteArray) (h : ∀ x ∈ xs, x.size ≤ b) : (Lib.join (xs.map (·.data.toList)) [c]).length ≤ (b + 1) * xs.length := by
  cases xs with
  | nil => simp [Lib.join_nil]
  | cons x r =>
    have := lens_le b (x :: r) h
    rw [List.map_cons, Lib.join_length]
    simp only [List.map_cons, List.length_cons, List.length_map, List.length_nil] at *
    have e : (b + 1) * (r.length + 1) = b * (r.length + 1) + (r.length + 1) := by rw [Nat.add_mul, Nat.one_mul]
    omega
theorem jn_size (c : UInt8) (b : Nat) (xs : List ByteArray) (h : ∀ x ∈ xs, x.size ≤ b) : (jn c xs).size ≤ (b + 1) * xs.length := by
  have := jn_len c b xs h
  unfold jn
  simpa [ByteArray.size] using this
theorem take_map_snoc {α β : Type} (f : α → β) (zs : List α) (k : Nat) (z : α) (h : zs[k]? = some z) : (zs.take (k + 1)).map f = (zs.take k).map f ++ [f z] := by
  rw [List.take_add_one, h]; simp
end Go.Proofs.YthedpbdeahieaaaDoor
