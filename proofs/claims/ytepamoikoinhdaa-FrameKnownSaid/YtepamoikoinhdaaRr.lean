/- What strings.Repeat does of one letter. -/
import Derived.Test.YtepamoikoinhdaaGen
import Derived.Test.YtepamoikoinhdaaShelf
import Derived.Shelf.Strings.Repeat
namespace Go.Proofs.Ytepamoikoinhdaa
open Go.RowKit
theorem rep_one (c : UInt8) : ∀ n, Lib.repeatL [c] n = List.replicate n c
  | 0 => rfl
  | n + 1 => by rw [List.replicate_succ, ← rep_one c n]; rfl
theorem rep_any (c : UInt8) (n : Nat) (hn : n ≤ 100000) (w : World) : Calls Try.prog 13 #[S [c], .int .i64 (n : Int)] w fun e w' => e = .returned (S (List.replicate n c)) ∧ Below w.heap.size w w' := by
  have h := Try.strings_Repeat ⟨#[c]⟩ n w (by omega) (by show 1 * n ≤ _; omega)
  rw [show (⟨#[c]⟩ : ByteArray).data.toList = [c] from rfl, rep_one] at h
  exact h
end Go.Proofs.Ytepamoikoinhdaa
