/- What strings.Repeat does of one letter. -/
import Derived.Test.YtemlbegafkmgbaaDoorLk
import Derived.Test.YtemlbegafkmgbaaDoorShelf
namespace Go.Proofs.YtemlbegafkmgbaaDoor
open Go.RowKit

theorem repeat_one (c : UInt8) : ∀ n, Lib.repeatL [c] n = List.replicate n c
  | 0 => rfl
  | n + 1 => by rw [List.replicate_succ, ← repeat_one c n]; rfl
theorem repeat_x (w : World) : Calls Tryd.prog 12 #[.string ⟨#[120]⟩, .int .i64 511] w fun e w' => e = .returned (S (List.replicate 511 120)) ∧ Below w.heap.size w w' := by
  have h := Tryd.strings_Repeat ⟨#[120]⟩ 511 w (by decide) (by decide)
  rw [show (⟨#[120]⟩ : ByteArray).data.toList = [120] from rfl, repeat_one] at h
  exact h
end Go.Proofs.YtemlbegafkmgbaaDoor
