/- The cells of a reader that nobody made (of this seat's package: to be turned for another one). -/
import Derived.Test.YtocekbfnefajhaaDoorCo
namespace Go.Proofs.YtocekbfnefajhaaDoor
open Go.RowKit
def zeroC : Array Value := #[.int .i64 0, .slice none 0 0, .slice none 0 0, .int .i64 0, .int .i64 0, .int .i64 0, .int .i64 0]
end Go.Proofs.YtocekbfnefajhaaDoor
