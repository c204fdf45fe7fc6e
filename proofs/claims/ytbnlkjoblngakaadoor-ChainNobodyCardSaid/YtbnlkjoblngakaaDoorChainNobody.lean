/- ChainNobody returns true for any row of steps: around no handler nothing stands. No condition. The listed variables are tied to the program's text. -/
import Derived.Test.YtbnlkjoblngakaaDoorKd
import Derived.Test.YtbnlkjoblngakaaDoorOs
import Derived.Test.YtbnlkjoblngakaaDoorKy
import Derived.Test.YtbnlkjoblngakaaDoorOwn
import Derived.Test.YtbnlkjoblngakaaDoorRows
import Derived.ProofKit
import Derived.Handed
import Derived.OpenShut
import Derived.Test.YtbnlkjoblngakaaDoorBo
import Derived.LaidLaws
import Derived.Lay
import Derived.Test.YtbnlkjoblngakaaDoorTie
import Derived.Test.YtbnlkjoblngakaaDoorCards
import Derived.SevenTiedAt
namespace Go.Proofs.YtbnlkjoblngakaaDoor
open Go Go.ChangeShapes Go.WideShapes Go.ChangeAt Go.RowKit
open Go.ChangeMaps (open_string shut_string)
open Go.WideMaps Go.WideElems
noncomputable def start_ChainNobody (os : Os) : World := World.laidAll Tryd.prog os Rows.chainNobodyRow.laid
theorem met_ChainNobody (os : Os) (args : Array Value) : laidMet Tryd.prog Rows.chainNobodyRow.laid ((start_ChainNobody os).forCall (fun _ _ => 0) ⟨#[], args, []⟩).memory :=
  laidMet_laidAll _ (by kernel_rfl) (by kernel_rfl)
theorem os_ChainNobody (os : Os) : (start_ChainNobody os).os = os := World.laidAll_os _ _ _

set_option maxRecDepth 100000 in
theorem chainNobody_lifted (os : Os) (started : os.Started) (H : Type) (enc : TypeId × Value → H) :
    ReturnsInHanded {} Tryd.checked os 4 .any (fun w args => (Rows.chainNobodySpec.pre enc Tryd.prog Tryd.f4 Rows.chainNobodyRow.domain false w args ∧ laidMet Tryd.prog Rows.chainNobodyRow.laid w) ∧ sizedMet enc Tryd.prog Tryd.f4 (OpenSpec.ofChange Rows.chainNobodySpec) false w args)
      (Rows.chainNobodySpec.post enc Tryd.prog Tryd.f4 false true false false) := by
  refine returns_both (C := Tryd.checked) (X := fun w _ => laidMet Tryd.prog Rows.chainNobodyRow.laid w) (fun _ _ _ hh h => h.of_heap hh) Tryd.own started (by kernel_rfl) Tryd.func4
    (ChangeSpec.witness_shaped (enc := enc) (C := Tryd.checked) (os := os) (X := fun w _ => laidMet Tryd.prog Rows.chainNobodyRow.laid w) false (start_ChainNobody os) #[.slice none 0 0] 8 (os_ChainNobody os)
      (World.shaped_of_ZipB (by kernel_rfl) (by kernel_rfl)) (by kernel_rfl) (by kernel_rfl) (by kernel_rfl) (met_ChainNobody os _)) ?_
  intro W base args ds gs before hval0 hW hcnd0 _ hL hsh _
  have hval : ∀ (j : Nat) t v, Tryd.f4.params[j]? = some t → args[j]? = some v → Value.okWide Tryd.prog W .any base t v := hval0
  have hW' := hW
  obtain ⟨p, q, hA0, hV, rfl, hfz, hnd⟩ := hW
  have hA : DataW.TrodAll enc Tryd.prog W 0 (fun _ => true) true Tryd.f4.params.toList args.toList ds p := hA0
  rw [Tryd.params4] at hA hval
  obtain ⟨v0, d0, rfl, rfl, h0⟩ := trodAll_one hA
  obtain ⟨rfl, rfl⟩ := trodVars_none hV
  obtain ⟨a0, len0, cap0, rfl⟩ := okWide_slice Tryd.underlying22 (hval 0 22 v0 rfl rfl)
  have h0k := h0
  obtain ⟨fuel0, hf0⟩ := h0
  clear hA0 hval0
  have hW2 := hW'
  simp only [List.append_nil] at hW2
  have hlt0 : ∀ x ∈ p, x.block < W.heap.size := fun x hx => by simpa using hW2.lt x (by simp [hx])
  obtain ⟨aa0, ls0, ca0, ba0, oa0, hcs0, hX0⟩ := open_steps (by simpa [Value.cells] using hf0)
  cases hcs0
  refine (nobody13_any (chainI hsh) ls0 _ ba0 oa0 hX0).mono fun e W' ⟨he, hnx⟩ => ?_
  subst he
  exact ⟨_, rfl, _, _, _, [], p, [], hW', trodAll_mk1 (shut_bool Tryd.underlying4 true),
    trodAll_mk1 (Below.trod Tryd.laidOut (by kernel_rfl) (of_decide_eq_true (by kernel_rfl)) h0k hnx hlt0), rfl, hnx.frame _, fun h => by cases h⟩

theorem chainNobody_holds : Rows.ChainNobodySaid :=
  OpenClaim.holds_of_wide 4 Tryd.f4 rfl rfl rfl rfl rfl rfl rfl ⟨rfl, rfl, rfl, rfl, rfl⟩ rfl rfl rfl rfl rfl (by kernel_rfl) Tryd.func4 (by kernel_rfl)
    (of_decide_eq_true (by kernel_rfl)) (by unfold Func.isWrapper; rw [if_neg (of_decide_eq_false (by kernel_rfl))]; exact ⟨rfl, rfl⟩)
    (fun os started H enc _ => chainNobody_lifted os started H enc)

theorem chainNobody_card : Rows.ChainNobodyCardSaid :=
  Claim7.holds_tied_plain_at .later [] [.data, .pinned] true _ false
    chainNobody_holds (fun _ h => by cases h) (by kernel_rfl) (fun _ h => by cases h) chainNobody_row_tie rfl ⟨rfl, rfl⟩ (by kernel_rfl) rfl
    (fun f fn hf hfn => by
      obtain rfl : f = 4 := Option.some.inj (hf.symm.trans (by kernel_rfl))
      obtain rfl : fn = Tryd.f4 := (Option.some.inj (Tryd.func4.symm.trans hfn)).symm
      exact ⟨by kernel_rfl, fun j t ht => by
        rw [Tryd.params4] at ht
        match j, ht with
        | 0, ht =>
          obtain rfl : t = 22 := by simpa using ht.symm
          exact (show Tryd.prog.wantsStandIn 22 = false by kernel_rfl)
        | j + 1, ht => simp at ht⟩)
    (by kernel_rfl)
end Go.Proofs.YtbnlkjoblngakaaDoor
