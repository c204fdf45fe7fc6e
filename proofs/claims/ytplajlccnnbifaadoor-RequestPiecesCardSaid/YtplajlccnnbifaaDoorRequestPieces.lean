/- RequestPieces returns true for any text and any cuts: however bytes are cut, the requests are the same, and what is wrong, and what is left. No condition. The listed variables are tied to the program's text. -/
import Derived.Test.YtplajlccnnbifaaDoorRp
import Derived.Test.YtplajlccnnbifaaDoorRs5
import Derived.Test.YtplajlccnnbifaaDoorJh
import Derived.Test.YtplajlccnnbifaaDoorRows
import Derived.ProofKit
import Derived.Handed
import Derived.OpenShut
import Derived.LaidLaws
import Derived.Lay
import Derived.Test.YtplajlccnnbifaaDoorTie
import Derived.Test.YtplajlccnnbifaaDoorCards
import Derived.SevenTiedAt
namespace Go.Proofs.YtplajlccnnbifaaDoor
open Go Go.ChangeShapes Go.WideShapes Go.ChangeAt Go.RowKit
open Go.ChangeMaps (open_string shut_string)
open Go.WideMaps Go.WideElems
noncomputable def start_RequestPieces (os : Os) : World := World.laidAll Tryd.prog os Rows.requestPiecesRow.laid
theorem met_RequestPieces (os : Os) (args : Array Value) : laidMet Tryd.prog Rows.requestPiecesRow.laid ((start_RequestPieces os).forCall (fun _ _ => 0) ⟨#[], args, []⟩).memory :=
  laidMet_laidAll _ (by kernel_rfl) (by kernel_rfl)
theorem os_RequestPieces (os : Os) : (start_RequestPieces os).os = os := World.laidAll_os _ _ _

set_option maxRecDepth 100000 in
theorem requestPieces_lifted (os : Os) (started : os.Started) (H : Type) (enc : TypeId × Value → H) :
    ReturnsInHanded {} Tryd.checked os 3 .any (fun w args => (Rows.requestPiecesSpec.pre enc Tryd.prog Tryd.f3 Rows.requestPiecesRow.domain false w args ∧ laidMet Tryd.prog Rows.requestPiecesRow.laid w) ∧ sizedMet enc Tryd.prog Tryd.f3 (OpenSpec.ofChange Rows.requestPiecesSpec) false w args)
      (Rows.requestPiecesSpec.post enc Tryd.prog Tryd.f3 false true false false) := by
  refine returns_both (C := Tryd.checked) (X := fun w _ => laidMet Tryd.prog Rows.requestPiecesRow.laid w) (fun _ _ _ hh h => h.of_heap hh) Tryd.own started (by kernel_rfl) Tryd.func3
    (ChangeSpec.witness_shaped (enc := enc) (C := Tryd.checked) (os := os) (X := fun w _ => laidMet Tryd.prog Rows.requestPiecesRow.laid w) false (start_RequestPieces os) #[.string ⟨#[]⟩, .slice none 0 0] 8 (os_RequestPieces os)
      (World.shaped_of_ZipB (by kernel_rfl) (by kernel_rfl)) (by kernel_rfl) (by kernel_rfl) (by kernel_rfl) (met_RequestPieces os _)) ?_
  intro W base args ds gs before hval0 hW hcnd0 _ hL hsh _
  have hval : ∀ (j : Nat) t v, Tryd.f3.params[j]? = some t → args[j]? = some v → Value.okWide Tryd.prog W .any base t v := hval0
  have hW' := hW
  obtain ⟨p, q, hA0, hV, rfl, hfz, hnd⟩ := hW
  have hA : DataW.TrodAll enc Tryd.prog W 0 (fun _ => true) true Tryd.f3.params.toList args.toList ds p := hA0
  rw [Tryd.params3] at hA hval
  obtain ⟨v0, v1, d0, d1, p0, p1, rfl, rfl, rfl, h0, h1⟩ := trodAll_two hA
  obtain ⟨rfl, rfl⟩ := trodVars_none hV
  obtain ⟨s0, rfl, rfl, rfl, hs0⟩ := open_string Tryd.underlying9 (hval 0 9 v0 rfl rfl) h0
  obtain ⟨a1, len1, cap1, rfl⟩ := okWide_slice Tryd.underlying22 (hval 1 22 v1 rfl rfl)
  have h1k := h1
  obtain ⟨fuel1, hf1⟩ := h1
  clear hA0 hval0
  have hW2 := hW'
  simp only [List.append_nil, List.nil_append] at hW2
  have hlt1 : ∀ x ∈ p1, x.block < W.heap.size := fun x hx => by simpa using hW2.lt x (by simp [hx])
  obtain ⟨ad1, z1, hcame1, hzb1⟩ := came_nums Tryd.underlying22 Tryd.underlying5 cells5 (fun w => Tryd.sizeOf5 w) (by simpa [Value.cells] using hf1)
  obtain ⟨hcame1, hzb1⟩ := bytes_came hcame1 hzb1
  rw [S_of s0]
  refine (rpieces_any (requestI hsh) s0.data.toList (.slice a1 len1 cap1) len1 ad1 _ hcame1 hzb1).mono fun e W' ⟨he, hnx⟩ => ?_
  subst he
  rw [← S_of s0]
  exact ⟨_, rfl, _, _, _, [], [] ++ p1, [], hW', trodAll_mk1 (shut_bool Tryd.underlying4 true),
    trodAll_mk2 (shut_string Tryd.underlying9 hs0) (Below.trod Tryd.laidOut (by kernel_rfl) (of_decide_eq_true (by kernel_rfl)) h1k hnx hlt1), rfl, hnx.frame _, fun h => by cases h⟩

theorem requestPieces_holds : Rows.RequestPiecesSaid :=
  OpenClaim.holds_of_wide 3 Tryd.f3 rfl rfl rfl rfl rfl rfl rfl ⟨rfl, rfl, rfl, rfl, rfl⟩ rfl rfl rfl rfl rfl (by kernel_rfl) Tryd.func3 (by kernel_rfl)
    (of_decide_eq_true (by kernel_rfl)) (by unfold Func.isWrapper; rw [if_neg (of_decide_eq_false (by kernel_rfl))]; exact ⟨rfl, rfl⟩)
    (fun os started H enc _ => requestPieces_lifted os started H enc)

theorem requestPieces_card : Rows.RequestPiecesCardSaid :=
  Claim7.holds_tied_plain_at .later [] [.data, .pinned] true _ false
    requestPieces_holds (fun _ h => by cases h) (by kernel_rfl) (fun _ h => by cases h) requestPieces_row_tie rfl ⟨rfl, rfl⟩ (by kernel_rfl) rfl
    (fun f fn hf hfn => by
      obtain rfl : f = 3 := Option.some.inj (hf.symm.trans (by kernel_rfl))
      obtain rfl : fn = Tryd.f3 := (Option.some.inj (Tryd.func3.symm.trans hfn)).symm
      exact ⟨by kernel_rfl, fun j t ht => by
        rw [Tryd.params3] at ht
        match j, ht with
        | 0, ht =>
          obtain rfl : t = 9 := by simpa using ht.symm
          exact (show Tryd.prog.wantsStandIn 9 = false by kernel_rfl)
        | 1, ht =>
          obtain rfl : t = 22 := by simpa using ht.symm
          exact (show Tryd.prog.wantsStandIn 22 = false by kernel_rfl)
        | j + 2, ht => simp at ht⟩)
    (by kernel_rfl)
end Go.Proofs.YtplajlccnnbifaaDoor
