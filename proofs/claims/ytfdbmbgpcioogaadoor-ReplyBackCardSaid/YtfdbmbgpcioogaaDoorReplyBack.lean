/- ReplyBack returns true for any reply, asked for its head alone or not, closing or not, any text behind and any cut: of what has bytes Read reads it, with all its bytes, whatever stands behind; of every beginning of these that it is too short. No condition. The listed variables are tied to the program's text. -/
import Derived.Test.YtfdbmbgpcioogaaDoorPq
import Derived.Test.YtfdbmbgpcioogaaDoorOf
import Derived.Test.YtfdbmbgpcioogaaDoorJf
import Derived.Test.YtfdbmbgpcioogaaDoorRows
import Derived.ProofKit
import Derived.Handed
import Derived.OpenShut
import Derived.Carry
import Derived.Test.YtfdbmbgpcioogaaDoorFive
import Derived.LaidLaws
import Derived.Lay
import Derived.Test.YtfdbmbgpcioogaaDoorTie
import Derived.Test.YtfdbmbgpcioogaaDoorCards
import Derived.SevenTiedAt
namespace Go.Proofs.YtfdbmbgpcioogaaDoor
open Go Go.ChangeShapes Go.WideShapes Go.ChangeAt Go.RowKit
open Go.ChangeMaps (open_string shut_string)
open Go.WideMaps Go.WideElems
noncomputable def start_ReplyBack (os : Os) : World := World.laidAll Tryd.prog os Rows.replyBackRow.laid
theorem met_ReplyBack (os : Os) (args : Array Value) : laidMet Tryd.prog Rows.replyBackRow.laid ((start_ReplyBack os).forCall (fun _ _ => 0) ⟨#[], args, []⟩).memory :=
  laidMet_laidAll _ (by kernel_rfl) (by kernel_rfl)
theorem os_ReplyBack (os : Os) : (start_ReplyBack os).os = os := World.laidAll_os _ _ _

set_option maxRecDepth 100000 in
theorem replyBack_lifted (os : Os) (started : os.Started) (H : Type) (enc : TypeId × Value → H) :
    ReturnsInHanded {} Tryd.checked os 5 .any (fun w args => (Rows.replyBackSpec.pre enc Tryd.prog Tryd.f5 Rows.replyBackRow.domain false w args ∧ laidMet Tryd.prog Rows.replyBackRow.laid w) ∧ sizedMet enc Tryd.prog Tryd.f5 (OpenSpec.ofChange Rows.replyBackSpec) false w args)
      (Rows.replyBackSpec.post enc Tryd.prog Tryd.f5 false true false false) := by
  refine returns_both (C := Tryd.checked) (X := fun w _ => laidMet Tryd.prog Rows.replyBackRow.laid w) (fun _ _ _ hh h => h.of_heap hh) Tryd.own started (by kernel_rfl) Tryd.func5
    (ChangeSpec.witness_shaped (enc := enc) (C := Tryd.checked) (os := os) (X := fun w _ => laidMet Tryd.prog Rows.replyBackRow.laid w) false (start_ReplyBack os) #[.agg #[.int .i64 0, .slice none 0 0, .string ⟨#[]⟩], .bool false, .bool false, .string ⟨#[]⟩, .int .u32 0] 8 (os_ReplyBack os)
      (World.shaped_of_ZipB (by kernel_rfl) (by kernel_rfl)) (by kernel_rfl) (by kernel_rfl) (by kernel_rfl) (met_ReplyBack os _)) ?_
  intro W base args ds gs before hval0 hW hcnd0 hsz0 hL hsh _
  have hval : ∀ (j : Nat) t v, Tryd.f5.params[j]? = some t → args[j]? = some v → Value.okWide Tryd.prog W .any base t v := hval0
  have hW' := hW
  obtain ⟨p, q, hA0, hV, rfl, hfz, hnd⟩ := hW
  have hA : DataW.TrodAll enc Tryd.prog W 0 (fun _ => true) true Tryd.f5.params.toList args.toList ds p := hA0
  rw [Tryd.params5] at hA hval
  obtain ⟨v0, v1, v2, v3, v4, d0, d1, d2, d3, d4, p0, p1, p2, p3, p4, rfl, rfl, rfl, h0, h1, h2, h3, h4⟩ := trodAll_five hA
  obtain ⟨rfl, rfl⟩ := trodVars_none hV
  obtain ⟨⟨cs0⟩, rfl, _⟩ := okWide_struct Tryd.underlying29 (hval 0 29 v0 rfl rfl)
  have hw0 : ∀ n ∈ d0.weights Tryd.prog 29, n ≤ reachBytes := fun n hn => by simpa using List.all_eq_true.1 hsz0 n (DataW.weights_mem_each (j := 0) (t := 29) (by kernel_rfl) rfl n hn)
  obtain ⟨b1, rfl, rfl, rfl⟩ := open_bool Tryd.underlying4 (hval 1 4 v1 rfl rfl) h1
  obtain ⟨b2, rfl, rfl, rfl⟩ := open_bool Tryd.underlying4 (hval 2 4 v2 rfl rfl) h2
  obtain ⟨s3, rfl, rfl, rfl, hs3⟩ := open_string Tryd.underlying9 (hval 3 9 v3 rfl rfl) h3
  obtain ⟨n4, rfl, rfl, rfl, wn4⟩ := open_int Tryd.underlying39 (hval 4 39 v4 rfl rfl) h4
  have h0k := h0
  obtain ⟨fuel0, hf0⟩ := h0
  clear hA0 hval0
  have hW2 := hW'
  simp only [List.append_nil] at hW2
  have hlt0 : ∀ x ∈ p0, x.block < W.heap.size := fun x hx => by simpa using hW2.lt x (by simp [hx])
  obtain ⟨vi0, a0, fs0, c0, bd0, bb0, o0, hcs0, hbd0, hfl0, hA0⟩ := open_reply (B := reachBytes) (by simpa [Value.cells] using hf0) hw0
  subst hcs0
  simp only [reachBytes] at hbd0
  have bn4 := bounds_u32 wn4
  obtain ⟨m4, rfl⟩ : ∃ m : Nat, n4 = (m : Int) := ⟨n4.toNat, by omega⟩
  rw [S_of s3]
  refine (back10_any (replyI hsh (pow_of (.tail _ (.tail _ (.head _))) hL)) vi0 fs0 bd0 b1 b2 s3.data.toList m4 (by omega) _ bb0 o0 hA0 (by omega)).mono fun e W' ⟨he, hnx⟩ => ?_
  subst he
  rw [← S_of s3]
  exact ⟨_, rfl, _, _, _, [], p0 ++ ([] ++ ([] ++ ([] ++ []))), [], hW', trodAll_mk1 (shut_bool Tryd.underlying4 true),
    trodAll_mk5 (Below.trod Tryd.laidOut (by kernel_rfl) (of_decide_eq_true (by kernel_rfl)) h0k hnx hlt0) (shut_bool Tryd.underlying4 b1) (shut_bool Tryd.underlying4 b2) (shut_string Tryd.underlying9 hs3) (shut_int Tryd.underlying39 wn4), rfl, hnx.frame _, fun h => by cases h⟩

theorem replyBack_holds : Rows.ReplyBackSaid :=
  OpenClaim.holds_of_wide 5 Tryd.f5 rfl rfl rfl rfl rfl rfl rfl ⟨rfl, rfl, rfl, rfl, rfl⟩ rfl rfl rfl rfl rfl (by kernel_rfl) Tryd.func5 (by kernel_rfl)
    (of_decide_eq_true (by kernel_rfl)) (by unfold Func.isWrapper; rw [if_neg (of_decide_eq_false (by kernel_rfl))]; exact ⟨rfl, rfl⟩)
    (fun os started H enc _ => replyBack_lifted os started H enc)

theorem replyBack_card : Rows.ReplyBackCardSaid :=
  Claim7.holds_tied_plain_at .later [] [.data, .data, .data, .data, .sentinel, .sentinel, .pinned] true _ true
    replyBack_holds (fun _ h => by cases h) (by kernel_rfl) (fun _ h => by cases h) replyBack_row_tie rfl ⟨rfl, rfl⟩ (by kernel_rfl) rfl
    (fun f fn hf hfn => by
      obtain rfl : f = 5 := Option.some.inj (hf.symm.trans (by kernel_rfl))
      obtain rfl : fn = Tryd.f5 := (Option.some.inj (Tryd.func5.symm.trans hfn)).symm
      exact ⟨by kernel_rfl, fun j t ht => by
        rw [Tryd.params5] at ht
        match j, ht with
        | 0, ht =>
          obtain rfl : t = 29 := by simpa using ht.symm
          exact (show Tryd.prog.wantsStandIn 29 = false by kernel_rfl)
        | 1, ht =>
          obtain rfl : t = 4 := by simpa using ht.symm
          exact (show Tryd.prog.wantsStandIn 4 = false by kernel_rfl)
        | 2, ht =>
          obtain rfl : t = 4 := by simpa using ht.symm
          exact (show Tryd.prog.wantsStandIn 4 = false by kernel_rfl)
        | 3, ht =>
          obtain rfl : t = 9 := by simpa using ht.symm
          exact (show Tryd.prog.wantsStandIn 9 = false by kernel_rfl)
        | 4, ht =>
          obtain rfl : t = 39 := by simpa using ht.symm
          exact (show Tryd.prog.wantsStandIn 39 = false by kernel_rfl)
        | j + 5, ht => simp at ht⟩)
    (by kernel_rfl)
end Go.Proofs.YtfdbmbgpcioogaaDoor
