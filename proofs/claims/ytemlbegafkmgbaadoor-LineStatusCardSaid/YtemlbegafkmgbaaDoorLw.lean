/- What a row says of the numerals' table, as the walks ask it. -/
import Derived.Test.YtemlbegafkmgbaaDoorLo
import Derived.Test.YtemlbegafkmgbaaDoorRows
import Derived.Lib.LaidTab
namespace Go.Proofs.YtemlbegafkmgbaaDoor
open Go.RowKit

theorem pow_of_laid {W : World} (h : laidMet Tryd.prog Rows.lineStatusRow.laid W) : PowAt W := by
  obtain ⟨g', t', cs, fuel, p, hg', ht', hvar, hd⟩ := Lib.laidMet.reads h (n := "internal/strconv.uint64pow10") (d := Rows.laid_internal_strconv_uint64pow10) (.tail _ (.tail _ (.head _)))
  obtain rfl := Option.some.inj (hg'.symm.trans (show Tryd.prog.globalNamed "internal/strconv.uint64pow10" = some 1 by kernel_rfl))
  obtain rfl := Option.some.inj ((show (Tryd.prog.globals[1]?).map (·.type) = some 92 by kernel_rfl).symm.trans ht')
  unfold PowAt Lib.TabIs
  have hc := Lib.cells_of_tab (k := .u64) (n := 20) (zs := Lib.pow10Tab) Tryd.underlying92 Tryd.underlying66 (by kernel_rfl) (by kernel_rfl) (show DataW.trod _ Tryd.prog W 0 _ false fuel 92 cs.toList = some (Lib.tabData .u64 Lib.pow10Tab, p) from hd)
  rw [hvar, ← hc]
end Go.Proofs.YtemlbegafkmgbaaDoor
