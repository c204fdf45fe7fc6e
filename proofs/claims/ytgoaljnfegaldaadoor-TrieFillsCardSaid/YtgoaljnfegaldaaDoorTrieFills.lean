/- TrieFills returns true for any row of patterns and any path: the parameters and the rest of what is found, put into its pattern, are the path. No condition. The listed variables are tied to the program's text. -/
import Derived.Test.YtgoaljnfegaldaaDoorTe
import Derived.Test.YtgoaljnfegaldaaDoorOh
import Derived.Test.YtgoaljnfegaldaaDoorGen2
import Derived.Test.YtgoaljnfegaldaaDoorTv
import Derived.Test.YtgoaljnfegaldaaDoorOwn
import Derived.Test.YtgoaljnfegaldaaDoorRows
import Derived.ProofKit
import Derived.Handed
import Derived.OpenShut
import Derived.Test.YtgoaljnfegaldaaDoorBo
import Derived.LaidLaws
import Derived.Lay
import Derived.Test.YtgoaljnfegaldaaDoorTie
import Derived.Test.YtgoaljnfegaldaaDoorCards
import Derived.SevenTiedAt
namespace Go.Proofs.YtgoaljnfegaldaaDoor
open Go Go.ChangeShapes Go.WideShapes Go.ChangeAt Go.RowKit
open Go.ChangeMaps (open_string shut_string)
open Go.WideMaps Go.WideElems
noncomputable def start_TrieFills (os : Os) : World := World.laidAll Tryd.prog os Rows.trieFillsRow.laid
theorem met_TrieFills (os : Os) (args : Array Value) : laidMet Tryd.prog Rows.trieFillsRow.laid ((start_TrieFills os).forCall (fun _ _ => 0) ⟨#[], args, []⟩).memory :=
  laidMet_laidAll _ (by kernel_rfl) (by kernel_rfl)
theorem os_TrieFills (os : Os) : (start_TrieFills os).os = os := World.laidAll_os _ _ _

set_option maxRecDepth 100000 in
theorem trieFills_lifted (os : Os) (started : os.Started) (H : Type) (enc : TypeId × Value → H) :
    ReturnsInHanded {} Tryd.checked os 4 .any (fun w args => (Rows.trieFillsSpec.pre enc Tryd.prog Tryd.f4 Rows.trieFillsRow.domain false w args ∧ laidMet Tryd.prog Rows.trieFillsRow.laid w) ∧ sizedMet enc Tryd.prog Tryd.f4 (OpenSpec.ofChange Rows.trieFillsSpec) false w args)
      (Rows.trieFillsSpec.post enc Tryd.prog Tryd.f4 false true false false) := by
  refine returns_both (C := Tryd.checked) (X := fun w _ => laidMet Tryd.prog Rows.trieFillsRow.laid w) (fun _ _ _ hh h => h.of_heap hh) Tryd.own started (by kernel_rfl) Tryd.func4
    (ChangeSpec.witness_shaped (enc := enc) (C := Tryd.checked) (os := os) (X := fun w _ => laidMet Tryd.prog Rows.trieFillsRow.laid w) false (start_TrieFills os) #[.slice none 0 0, .slice none 0 0] 8 (os_TrieFills os)
      (World.shaped_of_ZipB (by kernel_rfl) (by kernel_rfl)) (by kernel_rfl) (by kernel_rfl) (by kernel_rfl) (met_TrieFills os _)) ?_
  intro W base args ds gs before hval0 hW hcnd0 _ hL hsh _
  have hval : ∀ (j : Nat) t v, Tryd.f4.params[j]? = some t → args[j]? = some v → Value.okWide Tryd.prog W .any base t v := hval0
  have hW' := hW
  obtain ⟨p, q, hA0, hV, rfl, hfz, hnd⟩ := hW
  have hA : DataW.TrodAll enc Tryd.prog W 0 (fun _ => true) true Tryd.f4.params.toList args.toList ds p := hA0
  rw [Tryd.params4] at hA hval
  obtain ⟨v0, v1, d0, d1, p0, p1, rfl, rfl, rfl, h0, h1⟩ := trodAll_two hA
  obtain ⟨rfl, rfl⟩ := trodVars_none hV
  obtain ⟨a0, len0, cap0, rfl⟩ := okWide_slice Tryd.underlying22 (hval 0 22 v0 rfl rfl)
  obtain ⟨a1, len1, cap1, rfl⟩ := okWide_slice Tryd.underlying22 (hval 1 22 v1 rfl rfl)
  have h0k := h0
  obtain ⟨fuel0, hf0⟩ := h0
  have h1k := h1
  obtain ⟨fuel1, hf1⟩ := h1
  clear hA0 hval0
  have hW2 := hW'
  simp only [List.append_nil] at hW2
  have hlt0 : ∀ x ∈ p0, x.block < W.heap.size := fun x hx => by simpa using hW2.lt x (by simp [hx])
  obtain ⟨aa0, xs0, ca0, ba0, oa0, hcs0, hX0⟩ := open_texts (by simpa [Value.cells] using hf0)
  cases hcs0
  have hlt1 : ∀ x ∈ p1, x.block < W.heap.size := fun x hx => by simpa using hW2.lt x (by simp [hx])
  obtain ⟨aa1, xs1, ca1, ba1, oa1, hcs1, hX1⟩ := open_texts (by simpa [Value.cells] using hf1)
  cases hcs1
  refine (fills12_any (trieI (max_of hsh)) (rightI (max_of hsh)) xs0 _ ba0 oa0 hX0 xs1 _ ba1 oa1 hX1).mono fun e W' ⟨he, hnx⟩ => ?_
  subst he
  exact ⟨_, rfl, _, _, _, [], p0 ++ p1, [], hW', trodAll_mk1 (shut_bool Tryd.underlying4 true),
    trodAll_mk2 (Below.trod Tryd.laidOut (by kernel_rfl) (of_decide_eq_true (by kernel_rfl)) h0k hnx hlt0) (Below.trod Tryd.laidOut (by kernel_rfl) (of_decide_eq_true (by kernel_rfl)) h1k hnx hlt1), rfl, hnx.frame _, fun h => by cases h⟩

theorem trieFills_holds : Rows.TrieFillsSaid :=
  OpenClaim.holds_of_wide 4 Tryd.f4 rfl rfl rfl rfl rfl rfl rfl ⟨rfl, rfl, rfl, rfl, rfl⟩ rfl rfl rfl rfl rfl (by kernel_rfl) Tryd.func4 (by kernel_rfl)
    (of_decide_eq_true (by kernel_rfl)) (by unfold Func.isWrapper; rw [if_neg (of_decide_eq_false (by kernel_rfl))]; exact ⟨rfl, rfl⟩)
    (fun os started H enc _ => trieFills_lifted os started H enc)

theorem trieFills_card : Rows.TrieFillsCardSaid :=
  Claim7.holds_tied_plain_at .later [] [.data, .pinned] true _ false
    trieFills_holds (fun _ h => by cases h) (by kernel_rfl) (fun _ h => by cases h) trieFills_row_tie rfl ⟨rfl, rfl⟩ (by kernel_rfl) rfl
    (fun f fn hf hfn => by
      obtain rfl : f = 4 := Option.some.inj (hf.symm.trans (by kernel_rfl))
      obtain rfl : fn = Tryd.f4 := (Option.some.inj (Tryd.func4.symm.trans hfn)).symm
      exact ⟨by kernel_rfl, fun j t ht => by
        rw [Tryd.params4] at ht
        match j, ht with
        | 0, ht =>
          obtain rfl : t = 22 := by simpa using ht.symm
          exact (show Tryd.prog.wantsStandIn 22 = false by kernel_rfl)
        | 1, ht =>
          obtain rfl : t = 22 := by simpa using ht.symm
          exact (show Tryd.prog.wantsStandIn 22 = false by kernel_rfl)
        | j + 2, ht => simp at ht⟩)
    (by kernel_rfl)
end Go.Proofs.YtgoaljnfegaldaaDoor
