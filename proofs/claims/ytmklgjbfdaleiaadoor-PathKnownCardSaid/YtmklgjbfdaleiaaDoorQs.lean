/- The document's tokens walked. -/
import Derived.Test.YtmklgjbfdaleiaaDoorQb
import Derived.Test.YtmklgjbfdaleiaaDoorProg
namespace Go.Proofs.YtmklgjbfdaleiaaDoor
open Go.RowKit

section
attribute [local go_sem] store_one S_match S_store S_add eql_S guard_S neql_S nguard_S B_eql eguard_B
theorem tok_index (i : Nat) (x : UInt8) (hx : tokAll[i]? = some x) (w : World) : (Instr.index 9 (.string ⟨([65, 66, 67, 68, 69, 70, 71, 72, 73, 74, 75, 76, 77, 78, 79, 80, 81, 82, 83, 84, 85, 86, 87, 88, 89, 90, 97, 98, 99, 100, 101, 102, 103, 104, 105, 106, 107, 108].append [109, 110, 111, 112, 113, 114, 115, 116, 117, 118, 119, 120, 121, 122, 48, 49, 50, 51, 52, 53, 54, 55, 56, 57, 33, 35, 36, 37, 38, 39, 42, 43, 45, 46, 94, 95, 96, 124, 126]).toArray⟩) (.int .i64 (i : Int))).run Tryd.prog w = .ok (B x) w :=
  index_text Tryd.underlying9 _ tokAll rfl i x hx w
theorem lit_B (s : ByteArray) (i : Nat) (h : i < s.size) (x : UInt8) (hl : s.data.toList[i]? = some x) : Value.int .u8 (((s[i]'h).toNat : Nat) : Int) = B x := by
  have e : s[i]'h = x := by
    rw [get_text s i h] at hl
    exact Option.some.inj hl
  rw [e, B]
end
end Go.Proofs.YtmklgjbfdaleiaaDoor
