/- The document's Token walked. -/
import Derived.Test.YtmklgjbfdaleiaaDoorQs
namespace Go.Proofs.YtmklgjbfdaleiaaDoor
open Go.RowKit
attribute [local go_sem] store_one S_match S_store
end Go.Proofs.YtmklgjbfdaleiaaDoor
