/- What is asked of the document's own function Reads. -/
import Derived.Test.YtocekbfnefajhaaDoorCm3
import Derived.Test.YtocekbfnefajhaaDoorProg
namespace Go.Proofs.YtocekbfnefajhaaDoor
open Go.RowKit

/-- What is asked of the document's own function. -/
def DocReads : Prop := ∀ (s : List UInt8) (w : World), s.length ≤ 100000 → Calls Tryd.prog 17 #[S s] w fun e w' => e = .returned (readsV s) ∧ Below w.heap.size w w'
end Go.Proofs.YtocekbfnefajhaaDoor
