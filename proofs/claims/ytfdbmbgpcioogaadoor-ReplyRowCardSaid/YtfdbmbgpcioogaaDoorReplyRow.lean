/- ReplyRow returns true for any row of replies and any row of bools: the bytes of those that have any, one behind the other, are read reply by reply. No condition. The listed variables are tied to the program's text. -/
import Derived.Test.YtfdbmbgpcioogaaDoorPr
import Derived.Test.YtfdbmbgpcioogaaDoorOg
import Derived.Test.YtfdbmbgpcioogaaDoorJf
import Derived.Test.YtfdbmbgpcioogaaDoorRows
import Derived.ProofKit
import Derived.Handed
import Derived.OpenShut
import Derived.LaidLaws
import Derived.Lay
import Derived.Test.YtfdbmbgpcioogaaDoorTie
import Derived.Test.YtfdbmbgpcioogaaDoorCards
import Derived.SevenTiedAt
namespace Go.Proofs.YtfdbmbgpcioogaaDoor
open Go Go.ChangeShapes Go.WideShapes Go.ChangeAt Go.RowKit
open Go.ChangeMaps (open_string shut_string)
open Go.WideMaps Go.WideElems
noncomputable def start_ReplyRow (os : Os) : World := World.laidAll Tryd.prog os Rows.replyRowRow.laid
theorem met_ReplyRow (os : Os) (args : Array Value) : laidMet Tryd.prog Rows.replyRowRow.laid ((start_ReplyRow os).forCall (fun _ _ => 0) ⟨#[], args, []⟩).memory :=
  laidMet_laidAll _ (by kernel_rfl) (by kernel_rfl)
theorem os_ReplyRow (os : Os) : (start_ReplyRow os).os = os := World.laidAll_os _ _ _

set_option maxRecDepth 100000 in
theorem replyRow_lifted (os : Os) (started : os.Started) (H : Type) (enc : TypeId × Value → H) :
    ReturnsInHanded {} Tryd.checked os 6 .any (fun w args => (Rows.replyRowSpec.pre enc Tryd.prog Tryd.f6 Rows.replyRowRow.domain false w args ∧ laidMet Tryd.prog Rows.replyRowRow.laid w) ∧ sizedMet enc Tryd.prog Tryd.f6 (OpenSpec.ofChange Rows.replyRowSpec) false w args)
      (Rows.replyRowSpec.post enc Tryd.prog Tryd.f6 false true false false) := by
  refine returns_both (C := Tryd.checked) (X := fun w _ => laidMet Tryd.prog Rows.replyRowRow.laid w) (fun _ _ _ hh h => h.of_heap hh) Tryd.own started (by kernel_rfl) Tryd.func6
    (ChangeSpec.witness_shaped (enc := enc) (C := Tryd.checked) (os := os) (X := fun w _ => laidMet Tryd.prog Rows.replyRowRow.laid w) false (start_ReplyRow os) #[.slice none 0 0, .slice none 0 0] 8 (os_ReplyRow os)
      (World.shaped_of_ZipB (by kernel_rfl) (by kernel_rfl)) (by kernel_rfl) (by kernel_rfl) (by kernel_rfl) (met_ReplyRow os _)) ?_
  intro W base args ds gs before hval0 hW hcnd0 hsz0 hL hsh _
  have hval : ∀ (j : Nat) t v, Tryd.f6.params[j]? = some t → args[j]? = some v → Value.okWide Tryd.prog W .any base t v := hval0
  have hW' := hW
  obtain ⟨p, q, hA0, hV, rfl, hfz, hnd⟩ := hW
  have hA : DataW.TrodAll enc Tryd.prog W 0 (fun _ => true) true Tryd.f6.params.toList args.toList ds p := hA0
  rw [Tryd.params6] at hA hval
  obtain ⟨v0, v1, d0, d1, p0, p1, rfl, rfl, rfl, h0, h1⟩ := trodAll_two hA
  obtain ⟨rfl, rfl⟩ := trodVars_none hV
  obtain ⟨a0, len0, cap0, rfl⟩ := okWide_slice Tryd.underlying42 (hval 0 42 v0 rfl rfl)
  have hw0 : ∀ n ∈ d0.weights Tryd.prog 42, n ≤ reachBytes := fun n hn => by simpa using List.all_eq_true.1 hsz0 n (DataW.weights_mem_each (j := 0) (t := 42) (by kernel_rfl) rfl n hn)
  obtain ⟨a1, len1, cap1, rfl⟩ := okWide_slice Tryd.underlying43 (hval 1 43 v1 rfl rfl)
  have h0k := h0
  obtain ⟨fuel0, hf0⟩ := h0
  have h1k := h1
  obtain ⟨fuel1, hf1⟩ := h1
  clear hA0 hval0
  have hW2 := hW'
  simp only [List.append_nil] at hW2
  have hlt0 : ∀ x ∈ p0, x.block < W.heap.size := fun x hx => by simpa using hW2.lt x (by simp [hx])
  obtain ⟨aa0, xs0, ca0, ba0, oa0, hcs0, hX0, hbd0⟩ := open_replies (B := reachBytes) (by simpa [Value.cells] using hf0) hw0
  cases hcs0
  simp only [reachBytes] at hbd0
  have hlt1 : ∀ x ∈ p1, x.block < W.heap.size := fun x hx => by simpa using hW2.lt x (by simp [hx])
  obtain ⟨ha1, hs1, hc1, hb1, ho1, hcs1, hH1⟩ := open_bools (by simpa [Value.cells] using hf1)
  cases hcs1
  refine (row10_any (replyI hsh (pow_of (.tail _ (.tail _ (.head _))) hL)) xs0 hs1 _ _ ba0 oa0 _ _ hb1 ho1 hX0 hH1 (fun x hx => by have := hbd0 x hx; omega)).mono fun e W' ⟨he, hnx⟩ => ?_
  subst he
  exact ⟨_, rfl, _, _, _, [], p0 ++ p1, [], hW', trodAll_mk1 (shut_bool Tryd.underlying4 true),
    trodAll_mk2 (Below.trod Tryd.laidOut (by kernel_rfl) (of_decide_eq_true (by kernel_rfl)) h0k hnx hlt0) (Below.trod Tryd.laidOut (by kernel_rfl) (of_decide_eq_true (by kernel_rfl)) h1k hnx hlt1), rfl, hnx.frame _, fun h => by cases h⟩

theorem replyRow_holds : Rows.ReplyRowSaid :=
  OpenClaim.holds_of_wide 6 Tryd.f6 rfl rfl rfl rfl rfl rfl rfl ⟨rfl, rfl, rfl, rfl, rfl⟩ rfl rfl rfl rfl rfl (by kernel_rfl) Tryd.func6 (by kernel_rfl)
    (of_decide_eq_true (by kernel_rfl)) (by unfold Func.isWrapper; rw [if_neg (of_decide_eq_false (by kernel_rfl))]; exact ⟨rfl, rfl⟩)
    (fun os started H enc _ => replyRow_lifted os started H enc)

theorem replyRow_card : Rows.ReplyRowCardSaid :=
  Claim7.holds_tied_plain_at .later [] [.data, .data, .data, .data, .sentinel, .sentinel, .pinned] true _ true
    replyRow_holds (fun _ h => by cases h) (by kernel_rfl) (fun _ h => by cases h) replyRow_row_tie rfl ⟨rfl, rfl⟩ (by kernel_rfl) rfl
    (fun f fn hf hfn => by
      obtain rfl : f = 6 := Option.some.inj (hf.symm.trans (by kernel_rfl))
      obtain rfl : fn = Tryd.f6 := (Option.some.inj (Tryd.func6.symm.trans hfn)).symm
      exact ⟨by kernel_rfl, fun j t ht => by
        rw [Tryd.params6] at ht
        match j, ht with
        | 0, ht =>
          obtain rfl : t = 42 := by simpa using ht.symm
          exact (show Tryd.prog.wantsStandIn 42 = false by kernel_rfl)
        | 1, ht =>
          obtain rfl : t = 43 := by simpa using ht.symm
          exact (show Tryd.prog.wantsStandIn 43 = false by kernel_rfl)
        | j + 2, ht => simp at ht⟩)
    (by kernel_rfl)
end Go.Proofs.YtfdbmbgpcioogaaDoor
