/- The packages beside that of lines do what is asked of them. -/
import Derived.Test.YtemlbegafkmgbaaDoorLj
import Derived.Test.YtemlbegafkmgbaaDoorQp
import Derived.Lib.LaidU8
import Derived.Lib.AppendIntMem
import Derived.Shelf.Strconv.Itoa3
namespace Go.Proofs.YtemlbegafkmgbaaDoor
open Go.RowKit

/-- The table that numerals are written by. -/
def PowAt (w : World) : Prop := Lib.TabIs Tryd.prog w "internal/strconv.uint64pow10" .u64 Lib.pow10Tab
theorem outI : OutI PowAt where
  token := fun s w hs => (token15_any s hs w).mono (by rintro e w' ⟨h, rfl⟩; exact ⟨h, Below.refl _ _⟩)
  fparse := fun s w hs => parse10_any s hs w
  itoa := fun n w h0 h1 hT => (Any.strconv_Itoa Tryd.laysM171 n h0 h1 w hT).mono (by rintro e w' ⟨h, k, os, rfl⟩; exact ⟨h, Lib.below_grow _ _ (Nat.le_refl _) k os⟩)
  small := fun n w hn => (Any.strconv_Itoa_small Tryd.lays171 n (by omega) w).mono (by rintro e w' ⟨h, rfl⟩; exact ⟨by rw [h, Lib.decDigits_one hn]; rfl, Below.refl _ _⟩)
  keep := fun w w' h hb => Lib.tabBelow_of_tabIs h w' hb
end Go.Proofs.YtemlbegafkmgbaaDoor
