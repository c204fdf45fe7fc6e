/- What is wrong of a text: code walked. -/
import Derived.Test.YtplajlccnnbifaaGreatDoorJc
namespace Go.Proofs.YtplajlccnnbifaaGreatDoor
open Go.RowKit
attribute [local go_sem] store_one S_match S_store

set_option maxRecDepth 100000 in
set_option maxHeartbeats 400000 in
/-- What is wrong of a text. -/
theorem code_any {RA : World → (Nat → Prop) → Nat → PSt → Prop} {w : World} (C : RequestI w RA) {s : List UInt8} (hs : s.length ≤ 100000) {st : PSt} (hn : PSt.next ⟨s, 0⟩ = (none, st)) :
    Calls Tryz.prog 10 #[S s] w fun e w' => e = .returned (.int .i64 (st.bad : Int)) ∧ Below w.heap.size w w' := by
  have HC := Lib.hid C
  have HN := Lib.hid hn
  clear C hn
  go_enter Tryz.func10, Tryz.ntmps10
  go_wp2_with fail
  refine (OneK.make HC.out (Below.refl _ w)).mono ?_
  rintro e W1 ⟨g, rfl, h, _⟩
  have H1 := Lib.hid h
  clear h
  go_wp2_with fail
  refine (H1.out.feed HC.out s (by show 0 + _ ≤ _; omega)).mono ?_
  rintro e W2 ⟨rfl, h, _⟩
  have h2 : OneK RA w g ⟨s, 0⟩ (fun k => k < w.heap.size) W2 := h
  have H2 := Lib.hid h2
  clear h h2 H1
  go_wp2_with fail
  refine (H2.out.nextNone HC.out hs HN.out).mono ?_
  rintro e W3 ⟨rfl, h, _⟩
  have H3 := Lib.hid h
  clear h H2
  go_wp2_with fail
  refine (H3.out.bad HC.out).mono ?_
  rintro e W4 ⟨rfl, h, _⟩
  have H4 := Lib.hid h.bel
  clear h H3
  go_wp2
  go_ret
  exact ⟨rfl, H4.out⟩
end Go.Proofs.YtplajlccnnbifaaGreatDoor
