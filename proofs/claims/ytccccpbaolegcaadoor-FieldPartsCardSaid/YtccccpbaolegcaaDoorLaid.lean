/- The listed variables: no walk reads them; a start that has them. -/
import Derived.Test.YtccccpbaolegcaaDoorG5
import Derived.Test.YtccccpbaolegcaaDoorRows
import Derived.ProofKit
import Derived.LaidLaws
import Derived.Handed
import Derived.OpenShut
import Derived.Carry
import Derived.Lay
namespace Go.Proofs.YtccccpbaolegcaaDoor
open Go.ChangeShapes Go.WideShapes Go.ChangeAt Go.RowKit
open Go.ChangeMaps (open_string shut_string)
open Go.WideMaps Go.WideElems

theorem Tryd.own : ownKnob Tryd.prog.godebug = none := by kernel_rfl
theorem Tryd.laidOut : laidOutB Tryd.prog = true := by kernel_rfl
noncomputable def startWorld (os : Os) : World := World.laidAll Tryd.prog os Rows.fieldKnownRow.laid
theorem laid_met (os : Os) (args : Array Value) : laidMet Tryd.prog Rows.fieldKnownRow.laid ((startWorld os).forCall (fun _ _ => 0) ⟨#[], args, []⟩).memory :=
  laidMet_laidAll _ (by kernel_rfl) (by kernel_rfl)
theorem start_os (os : Os) : (startWorld os).os = os := World.laidAll_os _ _ _
theorem flds_came {H : Type} {enc : TypeId × Value → H} {W : World} {a0 : Option Addr} {len cap fuel : Nat} {x : DataW H × List MemPlace}
    (hf : DataW.trod enc Tryd.prog W 0 (fun _ => true) true fuel 36 [.slice a0 len cap] = some x) :
    ∃ (nm vl : Nat → List UInt8) (b o : Nat), (∃ v, CameS Tryd.prog W 36 (.slice a0 len cap) len b o 2 v ∧ ∀ i, i < len → v i 0 = S (nm i) ∧ v i 1 = S (vl i)) ∧ ∀ i, i < len → (nm i).length ≤ maxLen ∧ (vl i).length ≤ maxLen := by
  obtain ⟨b, o, v, hc, n, hv⟩ := came_structs Tryd.underlying36 Tryd.underlying23 (by kernel_rfl) (by kernel_rfl) (by decide) (fun w => Tryd.sizeOf23 w) hf
  have hall : ∀ i, i < len → ∃ q : List UInt8 × List UInt8, v i 0 = S q.1 ∧ v i 1 = S q.2 ∧ q.1.length ≤ maxLen ∧ q.2.length ≤ maxLen := fun i hi => by
    obtain ⟨y0, t0⟩ := hv i 0 _ hi rfl
    obtain ⟨y1, t1⟩ := hv i 1 _ hi rfl
    obtain ⟨z0, e0, l0⟩ := field_text Tryd.underlying9 t0
    obtain ⟨z1, e1, l1⟩ := field_text Tryd.underlying9 t1
    exact ⟨(z0, z1), e0, e1, l0, l1⟩
  obtain ⟨F, hF⟩ := choose_lt' hall
  exact ⟨fun i => (F i).1, fun i => (F i).2, b, o, ⟨v, hc, fun i hi => ⟨(hF i hi).1, (hF i hi).2.1⟩⟩, fun i hi => (hF i hi).2.2⟩
end Go.Proofs.YtccccpbaolegcaaDoor
