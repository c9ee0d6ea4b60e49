/- Copies of lists in blocks of their own. -/
import Derived.Test.YtkbdidpodcclfaaSl
namespace Go.Proofs.Ytkbdidpodcclfaa
open Go.RowKit

def NewSl (zs : List Nat) (w : World) (e : Ending) (w' : World) : Prop := ∃ p, e = .returned (sl p zs) ∧ w.heap.size ≤ p ∧ Cells w' p (fl zs) ∧ Below w.heap.size w w'
theorem toF_sl (v : Value) (zs : List Nat) (w : World) (h : FRow w v zs) (hl : zs.length ≤ 1048576) : Calls Try.prog 23 #[v] w (NewSl zs w) :=
  (toF_new v zs w h hl).mono fun _ _ ⟨he, _, hb, hc⟩ => ⟨_, he, Nat.le_refl _, hc, hb⟩

/-- true, and nothing that was there has turned -/
def YesB (w : World) (e : Ending) (w' : World) : Prop := e = .returned (.bool true) ∧ Below w.heap.size w w'
/-- how a slice's length is taken from what is left -/
theorem sz32_fit (a : Option Addr) (n c left : Nat) (w : World) (hn : n ≤ left) (hl : left ≤ 1048576) :
    Calls Try.prog 43 #[.slice a n c, .int .i64 left] w fun e w' => e = .returned (.int .i64 ((left - n : Nat) : Int)) ∧ w = w' := by
  have e : ((left : Int) - (n : Int)) = ((left - n : Nat) : Int) := by omega
  go_enter Try.func43, Try.ntmps43
  go_wp2
  go_ret
  exact ⟨by simp, rfl⟩

theorem sz32_over (a : Option Addr) (n c left : Nat) (w : World) (hn : left < n) (hm : n ≤ 9223372036854775807) (hl : left ≤ 1048576) :
    Calls Try.prog 43 #[.slice a n c, .int .i64 left] w fun e w' => e = .returned (.int .i64 (-1)) ∧ w = w' := by
  go_enter Try.func43, Try.ntmps43
  go_wp2
  go_ret
  exact ⟨rfl, rfl⟩
end Go.Proofs.Ytkbdidpodcclfaa
