/- ShaPieces returns true for every text and every list of cuts: however a text is cut, its sum is the same, and asking in between changes nothing. No condition; the listed variable is tied to the program's text. -/
import Derived.Test.YtihgmgphfdjcfaaDoorP2
import Derived.Test.YtihgmgphfdjcfaaDoorTie
import Derived.Test.YtihgmgphfdjcfaaDoorCards
import Derived.SevenTiedAt
namespace Go.Proofs.YtihgmgphfdjcfaaDoor
open Go

theorem pieces_card : Rows.ShaPiecesCardSaid :=
  Claim7.holds_tied_plain_at .later [] [.data] true _ false
    pieces_holds (fun _ h => by cases h) (by kernel_rfl) (fun _ h => by cases h) shaPieces_row_tie rfl ⟨rfl, rfl⟩ (by kernel_rfl) rfl
    (fun f fn hf hfn => by
      obtain rfl : f = 7 := Option.some.inj (hf.symm.trans (by kernel_rfl))
      obtain rfl : fn = Tryd.f7 := (Option.some.inj (Tryd.func7.symm.trans hfn)).symm
      exact ⟨by kernel_rfl, fun j t ht => by
        rw [Tryd.params7] at ht
        match j, ht with
        | 0, ht =>
          obtain rfl : t = 9 := by simpa using ht.symm
          exact (show Tryd.prog.wantsStandIn 9 = false by kernel_rfl)
        | 1, ht =>
          obtain rfl : t = 39 := by simpa using ht.symm
          exact (show Tryd.prog.wantsStandIn 39 = false by kernel_rfl)
        | j + 2, ht => simp at ht⟩)
    (by kernel_rfl)
end Go.Proofs.YtihgmgphfdjcfaaDoor
