/- What is asked of the package of lines; awake walked over it. -/
import Derived.Test.YtmklgjbfdaleiaaDoorLm3
import Derived.Test.YtmklgjbfdaleiaaDoorProg
namespace Go.Proofs.YtmklgjbfdaleiaaDoor
open Go.RowKit
attribute [local go_sem] store_one S_match S_store

end Go.Proofs.YtmklgjbfdaleiaaDoor
