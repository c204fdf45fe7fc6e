/- The packages line and field do what RequestBack asks of them. -/
import Derived.Test.YtplajlccnnbifaaGreatDoorRx1
import Derived.Test.YtplajlccnnbifaaGreatDoorJd
import Derived.Test.YtplajlccnnbifaaGreatDoorJc
namespace Go.Proofs.YtplajlccnnbifaaGreatDoor
open Go.RowKit
theorem backI : BackI where
  target := fun s w hs => ltarget_any s w hs
  token := fun s w hs => (token15_any s hs w).mono (by rintro e w' ⟨h, rfl⟩; exact ⟨h, Below.refl _ _⟩)
  parse := fun s w hs => parse10_any s hs w
  alike := fun s t w hs ht => (alike16_any s t hs ht w).mono (by rintro e w' ⟨h, hD⟩; exact ⟨h, hD.below⟩)
end Go.Proofs.YtplajlccnnbifaaGreatDoor
