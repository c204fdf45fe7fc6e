/- ChainGoes returns true for any row of steps, any request and any reply of the handler: which steps are right, and what steps around a handler answer, and what comes to it, is the document's. No condition. The listed variables are tied to the program's text. -/
import Derived.Test.YtbnlkjoblngakaaDoorKgc
import Derived.Test.YtbnlkjoblngakaaDoorOs
import Derived.Test.YtbnlkjoblngakaaDoorKy
import Derived.Test.YtbnlkjoblngakaaDoorOwn
import Derived.Test.YtbnlkjoblngakaaDoorRows
import Derived.ProofKit
import Derived.Handed
import Derived.OpenShut
import Derived.Test.YtbnlkjoblngakaaDoorBo
import Derived.LaidLaws
import Derived.Lay
import Derived.Test.YtbnlkjoblngakaaDoorTie
import Derived.Test.YtbnlkjoblngakaaDoorCards
import Derived.SevenTiedAt
namespace Go.Proofs.YtbnlkjoblngakaaDoor
open Go Go.ChangeShapes Go.WideShapes Go.ChangeAt Go.RowKit
open Go.ChangeMaps (open_string shut_string)
open Go.WideMaps Go.WideElems
noncomputable def start_ChainGoes (os : Os) : World := World.laidAll Tryd.prog os Rows.chainGoesRow.laid
theorem met_ChainGoes (os : Os) (args : Array Value) : laidMet Tryd.prog Rows.chainGoesRow.laid ((start_ChainGoes os).forCall (fun _ _ => 0) ⟨#[], args, []⟩).memory :=
  laidMet_laidAll _ (by kernel_rfl) (by kernel_rfl)
theorem os_ChainGoes (os : Os) : (start_ChainGoes os).os = os := World.laidAll_os _ _ _

set_option maxRecDepth 100000 in
theorem chainGoes_lifted (os : Os) (started : os.Started) (H : Type) (enc : TypeId × Value → H) :
    ReturnsInHanded {} Tryd.checked os 3 .any (fun w args => (Rows.chainGoesSpec.pre enc Tryd.prog Tryd.f3 Rows.chainGoesRow.domain false w args ∧ laidMet Tryd.prog Rows.chainGoesRow.laid w) ∧ sizedMet enc Tryd.prog Tryd.f3 (OpenSpec.ofChange Rows.chainGoesSpec) false w args)
      (Rows.chainGoesSpec.post enc Tryd.prog Tryd.f3 false true false false) := by
  refine returns_both (C := Tryd.checked) (X := fun w _ => laidMet Tryd.prog Rows.chainGoesRow.laid w) (fun _ _ _ hh h => h.of_heap hh) Tryd.own started (by kernel_rfl) Tryd.func3
    (ChangeSpec.witness_shaped (enc := enc) (C := Tryd.checked) (os := os) (X := fun w _ => laidMet Tryd.prog Rows.chainGoesRow.laid w) false (start_ChainGoes os) #[.slice none 0 0, .agg #[.string ⟨#[]⟩, .string ⟨#[]⟩, .string ⟨#[]⟩, .int .i64 0, .slice none 0 0, .string ⟨#[]⟩, .bool false], .agg #[.int .i64 0, .slice none 0 0, .string ⟨#[]⟩]] 8 (os_ChainGoes os)
      (World.shaped_of_ZipB (by kernel_rfl) (by kernel_rfl)) (by kernel_rfl) (by kernel_rfl) (by kernel_rfl) (met_ChainGoes os _)) ?_
  intro W base args ds gs before hval0 hW hcnd0 hsz0 hL hsh _
  have hval : ∀ (j : Nat) t v, Tryd.f3.params[j]? = some t → args[j]? = some v → Value.okWide Tryd.prog W .any base t v := hval0
  have hW' := hW
  obtain ⟨p, q, hA0, hV, rfl, hfz, hnd⟩ := hW
  have hA : DataW.TrodAll enc Tryd.prog W 0 (fun _ => true) true Tryd.f3.params.toList args.toList ds p := hA0
  rw [Tryd.params3] at hA hval
  obtain ⟨v0, v1, v2, d0, d1, d2, p0, p1, p2, rfl, rfl, rfl, h0, h1, h2⟩ := trodAll_three hA
  obtain ⟨rfl, rfl⟩ := trodVars_none hV
  obtain ⟨a0, len0, cap0, rfl⟩ := okWide_slice Tryd.underlying22 (hval 0 22 v0 rfl rfl)
  obtain ⟨⟨cs1⟩, rfl, _⟩ := okWide_struct Tryd.underlying25 (hval 1 25 v1 rfl rfl)
  have hw1 : ∀ n ∈ d1.weights Tryd.prog 25, n ≤ reachBytes := fun n hn => by simpa using List.all_eq_true.1 hsz0 n (DataW.weights_mem_each (j := 1) (t := 25) (by kernel_rfl) rfl n hn)
  obtain ⟨⟨cs2⟩, rfl, _⟩ := okWide_struct Tryd.underlying27 (hval 2 27 v2 rfl rfl)
  have hw2 : ∀ n ∈ d2.weights Tryd.prog 27, n ≤ reachBytes := fun n hn => by simpa using List.all_eq_true.1 hsz0 n (DataW.weights_mem_each (j := 2) (t := 27) (by kernel_rfl) rfl n hn)
  have h0k := h0
  obtain ⟨fuel0, hf0⟩ := h0
  have h1k := h1
  obtain ⟨fuel1, hf1⟩ := h1
  have h2k := h2
  obtain ⟨fuel2, hf2⟩ := h2
  clear hA0 hval0
  have hW2 := hW'
  simp only [List.append_nil] at hW2
  have hlt0 : ∀ x ∈ p0, x.block < W.heap.size := fun x hx => by simpa using hW2.lt x (by simp [hx])
  obtain ⟨aa0, ls0, ca0, ba0, oa0, hcs0, hX0⟩ := open_steps (by simpa [Value.cells] using hf0)
  cases hcs0
  have hlt1 : ∀ x ∈ p1, x.block < W.heap.size := fun x hx => by simpa using hW2.lt x (by simp [hx])
  obtain ⟨m1, p1t, q1, vi1, a1, fs1, c1, bd1, cl1, b1, o1, hcs1, hA1⟩ := open_requestO (by simpa [Value.cells] using hf1)
  subst hcs1
  have hlt2 : ∀ x ∈ p2, x.block < W.heap.size := fun x hx => by simpa using hW2.lt x (by simp [hx])
  obtain ⟨vi2, a2, fs2, c2, bd2, b2, o2, hcs2, hA2⟩ := open_replyO (by simpa [Value.cells] using hf2)
  subst hcs2
  refine (goes13law_any (chainI hsh) ls0 _ ba0 oa0 hX0 ⟨m1, p1t, q1, vi1, fs1, bd1, cl1⟩ _ b1 o1 hA1 vi2 a2 _ c2 bd2 fs2 b2 o2 hA2 rfl).mono fun e W' ⟨he, hnx⟩ => ?_
  subst he
  exact ⟨_, rfl, _, _, _, [], p0 ++ (p1 ++ p2), [], hW', trodAll_mk1 (shut_bool Tryd.underlying4 true),
    trodAll_mk3 (Below.trod Tryd.laidOut (by kernel_rfl) (of_decide_eq_true (by kernel_rfl)) h0k hnx hlt0) (Below.trod Tryd.laidOut (by kernel_rfl) (of_decide_eq_true (by kernel_rfl)) h1k hnx hlt1) (Below.trod Tryd.laidOut (by kernel_rfl) (of_decide_eq_true (by kernel_rfl)) h2k hnx hlt2), rfl, hnx.frame _, fun h => by cases h⟩

theorem chainGoes_holds : Rows.ChainGoesSaid :=
  OpenClaim.holds_of_wide 3 Tryd.f3 rfl rfl rfl rfl rfl rfl rfl ⟨rfl, rfl, rfl, rfl, rfl⟩ rfl rfl rfl rfl rfl (by kernel_rfl) Tryd.func3 (by kernel_rfl)
    (of_decide_eq_true (by kernel_rfl)) (by unfold Func.isWrapper; rw [if_neg (of_decide_eq_false (by kernel_rfl))]; exact ⟨rfl, rfl⟩)
    (fun os started H enc _ => chainGoes_lifted os started H enc)

theorem chainGoes_card : Rows.ChainGoesCardSaid :=
  Claim7.holds_tied_plain_at .later [] [.data, .pinned] true _ false
    chainGoes_holds (fun _ h => by cases h) (by kernel_rfl) (fun _ h => by cases h) chainGoes_row_tie rfl ⟨rfl, rfl⟩ (by kernel_rfl) rfl
    (fun f fn hf hfn => by
      obtain rfl : f = 3 := Option.some.inj (hf.symm.trans (by kernel_rfl))
      obtain rfl : fn = Tryd.f3 := (Option.some.inj (Tryd.func3.symm.trans hfn)).symm
      exact ⟨by kernel_rfl, fun j t ht => by
        rw [Tryd.params3] at ht
        match j, ht with
        | 0, ht =>
          obtain rfl : t = 22 := by simpa using ht.symm
          exact (show Tryd.prog.wantsStandIn 22 = false by kernel_rfl)
        | 1, ht =>
          obtain rfl : t = 25 := by simpa using ht.symm
          exact (show Tryd.prog.wantsStandIn 25 = false by kernel_rfl)
        | 2, ht =>
          obtain rfl : t = 27 := by simpa using ht.symm
          exact (show Tryd.prog.wantsStandIn 27 = false by kernel_rfl)
        | j + 3, ht => simp at ht⟩)
    (by kernel_rfl)
end Go.Proofs.YtbnlkjoblngakaaDoor
