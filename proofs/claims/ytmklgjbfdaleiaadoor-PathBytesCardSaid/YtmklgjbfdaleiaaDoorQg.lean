/- The landed Token walked. -/
import Derived.Test.YtmklgjbfdaleiaaDoorQb
import Derived.Test.YtmklgjbfdaleiaaDoorShelf
import Derived.Shelf.Small.Strs
namespace Go.Proofs.YtmklgjbfdaleiaaDoor
open Go.RowKit
attribute [local go_sem] store_one S_match S_store eguard_BN nguard_BN

theorem mark_any (c : UInt8) (w : World) : Calls Tryd.prog 40 #[.string ⟨#[33, 35, 36, 37, 38, 39, 42, 43, 45, 46, 94, 95, 96, 124, 126]⟩, B c] w fun e w' => e = .returned (.int .i64 (Lib.indexByte markL c)) ∧ w' = w := by
  have h := Any.strings_IndexByte Tryd.lays137 ⟨#[33, 35, 36, 37, 38, 39, 42, 43, 45, 46, 94, 95, 96, 124, 126]⟩ (c.toNat : Int) w
  have e : (c.toNat : Int).toNat.toUInt8 = c := by simp
  rw [e] at h
  exact h
end Go.Proofs.YtmklgjbfdaleiaaDoor
