/- RequestBack returns true for any request and any text behind: a request that may be, as bytes, is parsed as it is, and again behind itself; what stands behind is left. No condition. The listed variables are tied to the program's text. -/
import Derived.Test.YtplajlccnnbifaaGreatDoorRx3
import Derived.Test.YtplajlccnnbifaaGreatDoorRx5
import Derived.Test.YtplajlccnnbifaaGreatDoorRx6
import Derived.Test.YtplajlccnnbifaaGreatDoorRy
import Derived.Test.YtplajlccnnbifaaGreatDoorJh
import Derived.Test.YtplajlccnnbifaaGreatDoorRows
import Derived.ProofKit
import Derived.Handed
import Derived.OpenShut
import Derived.LaidLaws
import Derived.Lay
import Derived.Test.YtplajlccnnbifaaGreatDoorTie
import Derived.Test.YtplajlccnnbifaaGreatDoorCards
import Derived.SevenTiedAt
namespace Go.Proofs.YtplajlccnnbifaaGreatDoor
open Go Go.ChangeShapes Go.WideShapes Go.ChangeAt Go.RowKit
open Go.ChangeMaps (open_string shut_string)
open Go.WideMaps Go.WideElems
noncomputable def start_RequestBack (os : Os) : World := World.laidAll Tryz.prog os Rows.requestBackRow.laid
theorem met_RequestBack (os : Os) (args : Array Value) : laidMet Tryz.prog Rows.requestBackRow.laid ((start_RequestBack os).forCall (fun _ _ => 0) ⟨#[], args, []⟩).memory :=
  laidMet_laidAll _ (by kernel_rfl) (by kernel_rfl)
theorem os_RequestBack (os : Os) : (start_RequestBack os).os = os := World.laidAll_os _ _ _

set_option maxRecDepth 100000 in
theorem requestBack_lifted (os : Os) (started : os.Started) (H : Type) (enc : TypeId × Value → H) :
    ReturnsInHanded {} Tryz.checked os 6 .any (fun w args => (Rows.requestBackSpec.pre enc Tryz.prog Tryz.f6 Rows.requestBackRow.domain false w args ∧ laidMet Tryz.prog Rows.requestBackRow.laid w) ∧ sizedMet enc Tryz.prog Tryz.f6 (OpenSpec.ofChange Rows.requestBackSpec) false w args)
      (Rows.requestBackSpec.post enc Tryz.prog Tryz.f6 false true false false) := by
  refine returns_both (C := Tryz.checked) (X := fun w _ => laidMet Tryz.prog Rows.requestBackRow.laid w) (fun _ _ _ hh h => h.of_heap hh) Tryz.own started (by kernel_rfl) Tryz.func6
    (ChangeSpec.witness_shaped (enc := enc) (C := Tryz.checked) (os := os) (X := fun w _ => laidMet Tryz.prog Rows.requestBackRow.laid w) false (start_RequestBack os) #[.agg #[.string ⟨#[]⟩, .string ⟨#[]⟩, .string ⟨#[]⟩, .int .i64 0, .slice none 0 0, .string ⟨#[]⟩, .bool false], .string ⟨#[]⟩] 8 (os_RequestBack os)
      (World.shaped_of_ZipB (by kernel_rfl) (by kernel_rfl)) (by kernel_rfl) (by kernel_rfl) (by kernel_rfl) (met_RequestBack os _)) ?_
  intro W base args ds gs before hval0 hW hcnd0 hsz0 hL hsh _
  have hval : ∀ (j : Nat) t v, Tryz.f6.params[j]? = some t → args[j]? = some v → Value.okWide Tryz.prog W .any base t v := hval0
  have hW' := hW
  obtain ⟨p, q, hA0, hV, rfl, hfz, hnd⟩ := hW
  have hA : DataW.TrodAll enc Tryz.prog W 0 (fun _ => true) true Tryz.f6.params.toList args.toList ds p := hA0
  rw [Tryz.params6] at hA hval
  obtain ⟨v0, v1, d0, d1, p0, p1, rfl, rfl, rfl, h0, h1⟩ := trodAll_two hA
  obtain ⟨rfl, rfl⟩ := trodVars_none hV
  obtain ⟨⟨cs0⟩, rfl, _⟩ := okWide_struct Tryz.underlying27 (hval 0 27 v0 rfl rfl)
  have hw0 : ∀ n ∈ d0.weights Tryz.prog 27, n ≤ reachBytes := fun n hn => by simpa using List.all_eq_true.1 hsz0 n (DataW.weights_mem_each (j := 0) (t := 27) (by kernel_rfl) rfl n hn)
  obtain ⟨s1, rfl, rfl, rfl, hs1⟩ := open_string Tryz.underlying9 (hval 1 9 v1 rfl rfl) h1
  have h0k := h0
  obtain ⟨fuel0, hf0⟩ := h0
  clear hA0 hval0
  have hW2 := hW'
  simp only [List.append_nil] at hW2
  have hlt0 : ∀ x ∈ p0, x.block < W.heap.size := fun x hx => by simpa using hW2.lt x (by simp [hx])
  obtain ⟨m0, p0q, q0, vi0, a0, fs0, c0, bd0, cl0, b0, o0, hcs0, hm0, hp0, hq0, hfl0, hA0⟩ := open_request (B := reachBytes) (by simpa [Value.cells] using hf0) hw0
  subst hcs0
  rw [S_of s1]
  refine (rback_any (requestI hsh) backI itoaI ⟨m0, p0q, q0, 0, fs0, bd0, false⟩ vi0 s1.data.toList a0 c0 b0 o0 cl0 (powR_of_laid hL) (by simp only [reachBytes] at hm0; dsimp only; omega) (by simp only [reachBytes] at hp0; dsimp only; omega) (by simp only [reachBytes] at hq0; dsimp only; omega) (fun f hf => by have := hfl0 f hf; simp only [reachBytes] at this; omega) hA0).mono fun e W' ⟨he, hnx⟩ => ?_
  subst he
  rw [← S_of s1]
  exact ⟨_, rfl, _, _, _, [], p0 ++ [], [], hW', trodAll_mk1 (shut_bool Tryz.underlying4 true),
    trodAll_mk2 (Below.trod Tryz.laidOut (by kernel_rfl) (of_decide_eq_true (by kernel_rfl)) h0k hnx hlt0) (shut_string Tryz.underlying9 hs1), rfl, hnx.frame _, fun h => by cases h⟩

theorem requestBack_holds : Rows.RequestBackSaid :=
  OpenClaim.holds_of_wide 6 Tryz.f6 rfl rfl rfl rfl rfl rfl rfl ⟨rfl, rfl, rfl, rfl, rfl⟩ rfl rfl rfl rfl rfl (by kernel_rfl) Tryz.func6 (by kernel_rfl)
    (of_decide_eq_true (by kernel_rfl)) (by unfold Func.isWrapper; rw [if_neg (of_decide_eq_false (by kernel_rfl))]; exact ⟨rfl, rfl⟩)
    (fun os started H enc _ => requestBack_lifted os started H enc)

theorem requestBack_card : Rows.RequestBackCardSaid :=
  Claim7.holds_tied_plain_at .later [] [.data, .data, .data, .data, .pinned] true _ false
    requestBack_holds (fun _ h => by cases h) (by kernel_rfl) (fun _ h => by cases h) requestBack_row_tie rfl ⟨rfl, rfl⟩ (by kernel_rfl) rfl
    (fun f fn hf hfn => by
      obtain rfl : f = 6 := Option.some.inj (hf.symm.trans (by kernel_rfl))
      obtain rfl : fn = Tryz.f6 := (Option.some.inj (Tryz.func6.symm.trans hfn)).symm
      exact ⟨by kernel_rfl, fun j t ht => by
        rw [Tryz.params6] at ht
        match j, ht with
        | 0, ht =>
          obtain rfl : t = 27 := by simpa using ht.symm
          exact (show Tryz.prog.wantsStandIn 27 = false by kernel_rfl)
        | 1, ht =>
          obtain rfl : t = 9 := by simpa using ht.symm
          exact (show Tryz.prog.wantsStandIn 9 = false by kernel_rfl)
        | j + 2, ht => simp at ht⟩)
    (by kernel_rfl)
end Go.Proofs.YtplajlccnnbifaaGreatDoor
