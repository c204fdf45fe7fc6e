/- What is asked of the document's own function Reads. -/
import Derived.Test.YtplajlccnnbifaaGreatDoorJe
import Derived.Test.YtplajlccnnbifaaGreatDoorProg
namespace Go.Proofs.YtplajlccnnbifaaGreatDoor
open Go.RowKit

/-- What is asked of the document's own function. -/
def DocReads : Prop := ∀ (s : List UInt8) (w : World), s.length ≤ 100000 → Calls Tryz.prog 33 #[S s] w fun e w' => e = .returned (readsV s) ∧ Below w.heap.size w w'
end Go.Proofs.YtplajlccnnbifaaGreatDoor
