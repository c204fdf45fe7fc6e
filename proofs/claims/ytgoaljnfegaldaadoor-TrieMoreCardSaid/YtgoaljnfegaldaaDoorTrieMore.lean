/- TrieMore returns true for any row of patterns, one more, and any path: a pattern that is added changes what is found only where it is found itself; what was found there fits, too. No condition. The listed variables are tied to the program's text. -/
import Derived.Test.YtgoaljnfegaldaaDoorTc
import Derived.Test.YtgoaljnfegaldaaDoorOh
import Derived.Test.YtgoaljnfegaldaaDoorGen2
import Derived.Test.YtgoaljnfegaldaaDoorTv
import Derived.Test.YtgoaljnfegaldaaDoorOwn
import Derived.Test.YtgoaljnfegaldaaDoorRows
import Derived.ProofKit
import Derived.Handed
import Derived.OpenShut
import Derived.Test.YtgoaljnfegaldaaDoorBo
import Derived.LaidLaws
import Derived.Lay
import Derived.Test.YtgoaljnfegaldaaDoorTie
import Derived.Test.YtgoaljnfegaldaaDoorCards
import Derived.SevenTiedAt
namespace Go.Proofs.YtgoaljnfegaldaaDoor
open Go Go.ChangeShapes Go.WideShapes Go.ChangeAt Go.RowKit
open Go.ChangeMaps (open_string shut_string)
open Go.WideMaps Go.WideElems
noncomputable def start_TrieMore (os : Os) : World := World.laidAll Tryd.prog os Rows.trieMoreRow.laid
theorem met_TrieMore (os : Os) (args : Array Value) : laidMet Tryd.prog Rows.trieMoreRow.laid ((start_TrieMore os).forCall (fun _ _ => 0) ⟨#[], args, []⟩).memory :=
  laidMet_laidAll _ (by kernel_rfl) (by kernel_rfl)
theorem os_TrieMore (os : Os) : (start_TrieMore os).os = os := World.laidAll_os _ _ _

set_option maxRecDepth 100000 in
theorem trieMore_lifted (os : Os) (started : os.Started) (H : Type) (enc : TypeId × Value → H) :
    ReturnsInHanded {} Tryd.checked os 5 .any (fun w args => (Rows.trieMoreSpec.pre enc Tryd.prog Tryd.f5 Rows.trieMoreRow.domain false w args ∧ laidMet Tryd.prog Rows.trieMoreRow.laid w) ∧ sizedMet enc Tryd.prog Tryd.f5 (OpenSpec.ofChange Rows.trieMoreSpec) false w args)
      (Rows.trieMoreSpec.post enc Tryd.prog Tryd.f5 false true false false) := by
  refine returns_both (C := Tryd.checked) (X := fun w _ => laidMet Tryd.prog Rows.trieMoreRow.laid w) (fun _ _ _ hh h => h.of_heap hh) Tryd.own started (by kernel_rfl) Tryd.func5
    (ChangeSpec.witness_shaped (enc := enc) (C := Tryd.checked) (os := os) (X := fun w _ => laidMet Tryd.prog Rows.trieMoreRow.laid w) false (start_TrieMore os) #[.slice none 0 0, .string ⟨#[]⟩, .slice none 0 0] 8 (os_TrieMore os)
      (World.shaped_of_ZipB (by kernel_rfl) (by kernel_rfl)) (by kernel_rfl) (by kernel_rfl) (by kernel_rfl) (met_TrieMore os _)) ?_
  intro W base args ds gs before hval0 hW hcnd0 _ hL hsh _
  have hval : ∀ (j : Nat) t v, Tryd.f5.params[j]? = some t → args[j]? = some v → Value.okWide Tryd.prog W .any base t v := hval0
  have hW' := hW
  obtain ⟨p, q, hA0, hV, rfl, hfz, hnd⟩ := hW
  have hA : DataW.TrodAll enc Tryd.prog W 0 (fun _ => true) true Tryd.f5.params.toList args.toList ds p := hA0
  rw [Tryd.params5] at hA hval
  obtain ⟨v0, v1, v2, d0, d1, d2, p0, p1, p2, rfl, rfl, rfl, h0, h1, h2⟩ := trodAll_three hA
  obtain ⟨rfl, rfl⟩ := trodVars_none hV
  obtain ⟨a0, len0, cap0, rfl⟩ := okWide_slice Tryd.underlying22 (hval 0 22 v0 rfl rfl)
  obtain ⟨s1, rfl, rfl, rfl, hs1⟩ := open_string Tryd.underlying9 (hval 1 9 v1 rfl rfl) h1
  obtain ⟨a2, len2, cap2, rfl⟩ := okWide_slice Tryd.underlying22 (hval 2 22 v2 rfl rfl)
  have h0k := h0
  obtain ⟨fuel0, hf0⟩ := h0
  have h2k := h2
  obtain ⟨fuel2, hf2⟩ := h2
  clear hA0 hval0
  have hW2 := hW'
  simp only [List.append_nil] at hW2
  have hlt0 : ∀ x ∈ p0, x.block < W.heap.size := fun x hx => by simpa using hW2.lt x (by simp [hx])
  obtain ⟨aa0, xs0, ca0, ba0, oa0, hcs0, hX0⟩ := open_texts (by simpa [Value.cells] using hf0)
  cases hcs0
  have hlt2 : ∀ x ∈ p2, x.block < W.heap.size := fun x hx => by simpa using hW2.lt x (by simp [hx])
  obtain ⟨aa2, xs2, ca2, ba2, oa2, hcs2, hX2⟩ := open_texts (by simpa [Value.cells] using hf2)
  cases hcs2
  rw [S_of s1]
  refine (more12_any (trieI (max_of hsh)) (rightI (max_of hsh)) xs0 _ ba0 oa0 hX0 s1.data.toList xs2 _ ba2 oa2 hX2).mono fun e W' ⟨he, hnx⟩ => ?_
  subst he
  rw [← S_of s1]
  exact ⟨_, rfl, _, _, _, [], p0 ++ ([] ++ p2), [], hW', trodAll_mk1 (shut_bool Tryd.underlying4 true),
    trodAll_mk3 (Below.trod Tryd.laidOut (by kernel_rfl) (of_decide_eq_true (by kernel_rfl)) h0k hnx hlt0) (shut_string Tryd.underlying9 hs1) (Below.trod Tryd.laidOut (by kernel_rfl) (of_decide_eq_true (by kernel_rfl)) h2k hnx hlt2), rfl, hnx.frame _, fun h => by cases h⟩

theorem trieMore_holds : Rows.TrieMoreSaid :=
  OpenClaim.holds_of_wide 5 Tryd.f5 rfl rfl rfl rfl rfl rfl rfl ⟨rfl, rfl, rfl, rfl, rfl⟩ rfl rfl rfl rfl rfl (by kernel_rfl) Tryd.func5 (by kernel_rfl)
    (of_decide_eq_true (by kernel_rfl)) (by unfold Func.isWrapper; rw [if_neg (of_decide_eq_false (by kernel_rfl))]; exact ⟨rfl, rfl⟩)
    (fun os started H enc _ => trieMore_lifted os started H enc)

theorem trieMore_card : Rows.TrieMoreCardSaid :=
  Claim7.holds_tied_plain_at .later [] [.data, .pinned] true _ false
    trieMore_holds (fun _ h => by cases h) (by kernel_rfl) (fun _ h => by cases h) trieMore_row_tie rfl ⟨rfl, rfl⟩ (by kernel_rfl) rfl
    (fun f fn hf hfn => by
      obtain rfl : f = 5 := Option.some.inj (hf.symm.trans (by kernel_rfl))
      obtain rfl : fn = Tryd.f5 := (Option.some.inj (Tryd.func5.symm.trans hfn)).symm
      exact ⟨by kernel_rfl, fun j t ht => by
        rw [Tryd.params5] at ht
        match j, ht with
        | 0, ht =>
          obtain rfl : t = 22 := by simpa using ht.symm
          exact (show Tryd.prog.wantsStandIn 22 = false by kernel_rfl)
        | 1, ht =>
          obtain rfl : t = 9 := by simpa using ht.symm
          exact (show Tryd.prog.wantsStandIn 9 = false by kernel_rfl)
        | 2, ht =>
          obtain rfl : t = 22 := by simpa using ht.symm
          exact (show Tryd.prog.wantsStandIn 22 = false by kernel_rfl)
        | j + 3, ht => simp at ht⟩)
    (by kernel_rfl)
end Go.Proofs.YtgoaljnfegaldaaDoor
