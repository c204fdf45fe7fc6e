/- What a row says of the table that counts zeros, as the walks ask it. -/
import Derived.Test.YtocekbfnefajhaaDoorCj
import Derived.Test.YtocekbfnefajhaaDoorRows
import Derived.Lib.LaidTab
import Derived.Lib.LaidU8
namespace Go.Proofs.YtocekbfnefajhaaDoor
open Go.RowKit

def zerosTab : List Int := [0, 1, 56, 2, 57, 49, 28, 3, 61, 58, 42, 50, 38, 29, 17, 4, 62, 47, 59, 36, 45, 43, 51, 22, 53, 39, 33, 30, 24, 18, 12, 5, 63, 55, 48, 27, 60, 41, 37, 16, 46, 35, 44, 21, 52, 32, 23, 11, 54, 26, 40, 15, 34, 20, 31, 10, 25, 14, 19, 9, 13, 8, 7, 6]
theorem zero_of_laid {W : World} (h : laidMet Tryd.prog Rows.chunkBackRow.laid W) : ZeroAt W := by
  obtain ⟨g', t', cs, fuel, p, hg', ht', hvar, hd⟩ := Lib.laidMet.reads h (n := "math/bits.deBruijn64tab") (d := Rows.laid_math_bits_deBruijn64tab) (.tail _ (.head _))
  obtain rfl := Option.some.inj (hg'.symm.trans (show Tryd.prog.globalNamed "math/bits.deBruijn64tab" = some 3 by kernel_rfl))
  obtain rfl := Option.some.inj ((show (Tryd.prog.globals[3]?).map (·.type) = some 96 by kernel_rfl).symm.trans ht')
  have hc := Lib.cells_of_tab (k := .u8) (n := 64) (zs := zerosTab) Tryd.underlying96 Tryd.underlying5 (by kernel_rfl) (by kernel_rfl) (show DataW.trod _ Tryd.prog W 0 _ false fuel 96 cs.toList = some (Lib.tabData .u8 zerosTab, p) from hd)
  unfold World.var? at hvar
  rw [hg'] at hvar
  unfold ZeroAt World.cell?
  simp only [Option.bind_some] at hvar
  split at hvar
  · rename_i cs' _ _ heq
    cases hvar
    have e : cs[15]? = cs.toList[15]? := by simp
    show (match W.heap[3]? with
      | some (Obj.cells c elem frozen) => if (none : Option Nat).isSome = true then none else c[15]?
      | x => none) = _
    rw [heq]
    show cs[15]? = _
    rw [e, hc]
    rfl
  · cases hvar
end Go.Proofs.YtocekbfnefajhaaDoor
