/- What RequestBack's row says of the numerals' table, as its walk asks it; strconv.Itoa. -/
import Derived.Test.YtplajlccnnbifaaGreatDoorRx1
import Derived.Test.YtplajlccnnbifaaGreatDoorShelf
import Derived.Test.YtplajlccnnbifaaGreatDoorRows
import Derived.Lib.LaidTab
import Derived.Lib.LaidU8
import Derived.Lib.AppendIntMem
import Derived.Shelf.Strconv.Itoa3
namespace Go.Proofs.YtplajlccnnbifaaGreatDoor
open Go.RowKit

/-- The table that numerals are written by. -/
def PowAt (w : World) : Prop := Lib.TabIs Tryz.prog w "internal/strconv.uint64pow10" .u64 Lib.pow10Tab
theorem itoaI : ItoaI PowAt where
  keep := fun {w w'} h hb => Lib.tabBelow_of_tabIs h w' hb
  itoa := fun n w hn hT => by
    rw [← itoa_nat]
    exact (Any.strconv_Itoa Tryz.laysM171 (n : Int) (by omega) (by omega) w hT).mono (by rintro e w' ⟨h, k, os, rfl⟩; exact ⟨h, Lib.below_grow _ _ (Nat.le_refl _) k os⟩)
theorem powR_of_laid {W : World} (h : laidMet Tryz.prog Rows.requestBackRow.laid W) : PowAt W := by
  obtain ⟨g', t', cs, fuel, p, hg', ht', hvar, hd⟩ := Lib.laidMet.reads h (n := "internal/strconv.uint64pow10") (d := Rows.laid_internal_strconv_uint64pow10) (.tail _ (.tail _ (.head _)))
  obtain rfl := Option.some.inj (hg'.symm.trans (show Tryz.prog.globalNamed "internal/strconv.uint64pow10" = some 1 by kernel_rfl))
  obtain rfl := Option.some.inj ((show (Tryz.prog.globals[1]?).map (·.type) = some 137 by kernel_rfl).symm.trans ht')
  unfold PowAt Lib.TabIs
  have hc := Lib.cells_of_tab (k := .u64) (n := 20) (zs := Lib.pow10Tab) Tryz.underlying137 Tryz.underlying86 (by kernel_rfl) (by kernel_rfl) (show DataW.trod _ Tryz.prog W 0 _ false fuel 137 cs.toList = some (Lib.tabData .u64 Lib.pow10Tab, p) from hd)
  rw [hvar, ← hc]
end Go.Proofs.YtplajlccnnbifaaGreatDoor
