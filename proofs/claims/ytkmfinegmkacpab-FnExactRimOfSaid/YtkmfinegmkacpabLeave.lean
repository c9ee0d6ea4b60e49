/- A call that starts no goroutine, under a row that lets goroutines be leaving at the return. -/
import Derived.Handed
import Derived.Leaving
import Derived.Conc.Holds
namespace Go.Proofs.Ytkmfinegmkacpab
open Go

theorem leaving_of_handed {a : Assume} {C : Checked} {os : Os} {f : FuncId} {r : Reach} {Pre : World → Array Value → Prop} {Post : World → Array Value → Value → World → Prop}
    (h : ReturnsInHanded a C os f r Pre Post) : ReturnsInLeavingWide a C os f r Pre Post := fun enter =>
  ReturnsInOpen.mono (fun _ _ _ x => ⟨x.2.1, onlyLeaving_of_quiet x.1, x.2.2⟩) (fun _ x => x) (h enter)
end Go.Proofs.Ytkmfinegmkacpab
