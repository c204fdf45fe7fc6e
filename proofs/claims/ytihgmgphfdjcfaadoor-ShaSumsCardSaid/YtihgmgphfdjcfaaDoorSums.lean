/- ShaSums returns true: a text's sum is the sum that the document's own way gives. No condition; the listed variable is tied to the program's text. -/
import Derived.Test.YtihgmgphfdjcfaaDoorV
import Derived.Test.YtihgmgphfdjcfaaDoorR3
import Derived.Test.YtihgmgphfdjcfaaDoorLaid
import Derived.Test.YtihgmgphfdjcfaaDoorTie
import Derived.Test.YtihgmgphfdjcfaaDoorCards
import Derived.SevenTiedAt
namespace Go.Proofs.YtihgmgphfdjcfaaDoor
open Go
open Go.ChangeShapes Go.WideShapes Go.ChangeAt Go.RowKit
open Go.ChangeMaps (open_string shut_string)

theorem S_of (s : ByteArray) : Value.string s = S s.data.toList := by rw [S]

attribute [local go_sem] U_add U_xor U_and U_or U_not U_shl U_shr store_one U_match B_match U_store B_store
set_option maxRecDepth 100000 in
set_option maxHeartbeats 2000000 in
theorem sums_any (l : List UInt8) (w : World) (hs : Start w) : Calls Tryd.prog 4 #[S l] w fun e w' => e = .returned (.bool true) ∧ Below w.heap.size w w' := by
  have hlenS := run_len_S 3
  have heq := eq_sum l
  have hgd := guard22
  go_enter Tryd.func4, Tryd.ntmps4
  go_wp2_with fail
  refine (awake_any w hs).mono ?_
  rintro e W1 ⟨rfl, B1⟩
  have S1 := hs.below B1 hs.lt
  by_cases h1 : 20000 < l.length
  · have hb1 : decide (20000 < (l.length : Int)) = true := by simp; omega
    go_wp2
    go_ret
    exact ⟨rfl, B1⟩
  have hb1 : decide (20000 < (l.length : Int)) = false := by simp; omega
  have HS := Lib.hid (sum_any l W1 S1 (by omega))
  have HR := Lib.hid (fun W => ref_any l (by omega) W)
  generalize bcells (shaL l) = X at *
  go_wp2_with (first
    | (go_at_call 9; refine HS.out.mono ?_; rintro e W2 ⟨rfl, B2⟩)
    | (go_at_call 11; refine (HR.out _).mono ?_; rintro e W3 ⟨rfl, B3⟩))
  go_ret
  exact ⟨rfl, B1.trans ((B2.trans (B3.mono B2.size)).mono B1.size)⟩

set_option maxRecDepth 100000 in
theorem sums_lifted (os : Os) (started : os.Started) (H : Type) (enc : TypeId × Value → H) :
    ReturnsInHanded {} Tryd.checked os 4 .any (fun w args => (Rows.shaSumsSpec.pre enc Tryd.prog Tryd.f4 Rows.shaSumsRow.domain false w args ∧ laidMet Tryd.prog Rows.shaSumsRow.laid w) ∧ sizedMet enc Tryd.prog Tryd.f4 (OpenSpec.ofChange Rows.shaSumsSpec) false w args)
      (Rows.shaSumsSpec.post enc Tryd.prog Tryd.f4 false true false false) := by
  refine returnsInHanded_of_change_and (C := Tryd.checked) (X := fun w _ => laidMet Tryd.prog Rows.shaSumsRow.laid w) (fun _ _ _ hh h => h.of_heap hh) Tryd.own started (by kernel_rfl) Tryd.func4
    (ChangeSpec.witness_at (enc := enc) (C := Tryd.checked) (os := os) (X := fun w _ => laidMet Tryd.prog Rows.shaSumsRow.laid w) false (startWorld os) #[.string ⟨#[]⟩] 8 rfl (by kernel_rfl) (by kernel_rfl) (by kernel_rfl) (by kernel_rfl) (by kernel_rfl) (laid_met os _)) ?_
  intro W base args ds gs before hval0 hW hcnd0 _ hL _
  have hval : ∀ (j : Nat) t v, Tryd.f4.params[j]? = some t → args[j]? = some v → Value.okWide Tryd.prog W .any base t v := hval0
  have hW' := hW
  obtain ⟨p, q, hA0, hV, rfl, hfz, hnd⟩ := hW
  have hA : DataW.TrodAll enc Tryd.prog W 0 (fun _ => true) true Tryd.f4.params.toList args.toList ds p := hA0
  rw [Tryd.params4] at hA hval
  obtain ⟨v0, d0, rfl, rfl, h0⟩ := trodAll_one hA
  obtain ⟨rfl, rfl⟩ := trodVars_none hV
  obtain ⟨s0, rfl, rfl, rfl, hs0⟩ := open_string Tryd.underlying9 (hval 0 9 v0 rfl rfl) h0
  clear hA0 hval0
  rw [S_of s0]
  refine (sums_any s0.data.toList W (start_of_laid hL)).mono fun e W' ⟨he, hnx⟩ => ?_
  subst he
  rw [← S_of s0]
  exact ⟨_, rfl, _, _, _, [], _, [], hW', trodAll_mk1 (shut_bool Tryd.underlying4 true),
    trodAll_mk1 (shut_string Tryd.underlying9 hs0), rfl, hnx.frame _, fun h => by cases h⟩

theorem sums_holds : Rows.ShaSumsSaid :=
  OpenClaim.holds_of_wide 4 Tryd.f4 rfl rfl rfl rfl rfl rfl rfl ⟨rfl, rfl, rfl, rfl, rfl⟩ rfl rfl rfl rfl rfl (by kernel_rfl) Tryd.func4 (by kernel_rfl)
    (of_decide_eq_true (by kernel_rfl)) (by unfold Func.isWrapper; rw [if_neg (of_decide_eq_false (by kernel_rfl))]; exact ⟨rfl, rfl⟩)
    (fun os started H enc _ => sums_lifted os started H enc)

theorem sums_card : Rows.ShaSumsCardSaid :=
  Claim7.holds_tied_plain_at .later [] [.data] true _ false
    sums_holds (fun _ h => by cases h) (by kernel_rfl) (fun _ h => by cases h) shaSums_row_tie rfl ⟨rfl, rfl⟩ (by kernel_rfl) rfl
    (fun f fn hf hfn => by
      obtain rfl : f = 4 := Option.some.inj (hf.symm.trans (by kernel_rfl))
      obtain rfl : fn = Tryd.f4 := (Option.some.inj (Tryd.func4.symm.trans hfn)).symm
      exact ⟨by kernel_rfl, fun j t ht => by
        rw [Tryd.params4] at ht
        have h9 : t = 9 := by
          match j, ht with
          | 0, ht => simpa using ht.symm
          | j + 1, ht => simp at ht
        subst h9
        exact (show Tryd.prog.wantsStandIn 9 = false by kernel_rfl)⟩)
    (by kernel_rfl)
end Go.Proofs.YtihgmgphfdjcfaaDoor
