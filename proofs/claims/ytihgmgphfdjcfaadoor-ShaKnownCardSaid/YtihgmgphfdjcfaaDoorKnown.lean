/- ShaKnown returns true: the chapter's three examples have the sums that the chapter gives. No condition; the listed variable is tied to the program's text. -/
import Derived.Test.YtihgmgphfdjcfaaDoorLaid
import Derived.Test.YtihgmgphfdjcfaaDoorTie
import Derived.Test.YtihgmgphfdjcfaaDoorCards
import Derived.SevenTiedAt
namespace Go.Proofs.YtihgmgphfdjcfaaDoor
open Go

theorem known_card : Rows.ShaKnownCardSaid :=
  Claim7.holds_tied_plain_at .later [] [.data] true _ false
    known_holds (fun _ h => by cases h) (by kernel_rfl) (fun _ h => by cases h) shaKnown_row_tie rfl ⟨rfl, rfl⟩ (by kernel_rfl) rfl
    (fun f fn hf hfn => by
      obtain rfl : f = 3 := Option.some.inj (hf.symm.trans (by kernel_rfl))
      obtain rfl : fn = Tryd.f3 := (Option.some.inj (Tryd.func3.symm.trans hfn)).symm
      exact ⟨by kernel_rfl, fun j t ht => by
        rw [Tryd.params3] at ht
        simp at ht⟩)
    (by kernel_rfl)
end Go.Proofs.YtihgmgphfdjcfaaDoor
