/- FieldBytes returns true for any byte and any text: the same of each byte, as a token, in a value, and beside another one. No condition. The listed variables are tied to the program's text. -/
import Derived.Test.YtccccpbaolegcaaDoorLaid
import Derived.Test.YtccccpbaolegcaaDoorFa
import Derived.Test.YtccccpbaolegcaaDoorTie
import Derived.Test.YtccccpbaolegcaaDoorCards
import Derived.SevenTiedAt
namespace Go.Proofs.YtccccpbaolegcaaDoor
open Go Go.ChangeShapes Go.WideShapes Go.ChangeAt Go.RowKit
open Go.ChangeMaps (open_string shut_string)
open Go.WideMaps Go.WideElems

set_option maxRecDepth 100000 in
theorem bytes_lifted (os : Os) (started : os.Started) (H : Type) (enc : TypeId × Value → H) :
    ReturnsInHanded {} Tryd.checked os 6 .any (fun w args => (Rows.fieldBytesSpec.pre enc Tryd.prog Tryd.f6 Rows.fieldBytesRow.domain false w args ∧ laidMet Tryd.prog Rows.fieldKnownRow.laid w) ∧ sizedMet enc Tryd.prog Tryd.f6 (OpenSpec.ofChange Rows.fieldBytesSpec) false w args)
      (Rows.fieldBytesSpec.post enc Tryd.prog Tryd.f6 false true false false) := by
  refine returnsInHanded_of_change_and (C := Tryd.checked) (X := fun w _ => laidMet Tryd.prog Rows.fieldKnownRow.laid w) (fun _ _ _ hh h => h.of_heap hh) Tryd.own started (by kernel_rfl) Tryd.func6
    (ChangeSpec.witness_shaped (enc := enc) (C := Tryd.checked) (os := os) (X := fun w _ => laidMet Tryd.prog Rows.fieldKnownRow.laid w) false (startWorld os) #[.int .u8 0, .string ⟨#[]⟩] 8 (start_os os)
      (World.shaped_of_ZipB (by kernel_rfl) (by kernel_rfl)) (by kernel_rfl) (by kernel_rfl) (by kernel_rfl) (laid_met os _)) ?_
  intro W base args ds gs before hval0 hW hcnd0 _ hL _
  have hval : ∀ (j : Nat) t v, Tryd.f6.params[j]? = some t → args[j]? = some v → Value.okWide Tryd.prog W .any base t v := hval0
  have hW' := hW
  obtain ⟨p, q, hA0, hV, rfl, hfz, hnd⟩ := hW
  have hA : DataW.TrodAll enc Tryd.prog W 0 (fun _ => true) true Tryd.f6.params.toList args.toList ds p := hA0
  rw [Tryd.params6] at hA hval
  obtain ⟨v0, v1, d0, d1, p0, p1, rfl, rfl, rfl, h0, h1⟩ := trodAll_two hA
  obtain ⟨rfl, rfl⟩ := trodVars_none hV
  obtain ⟨a, rfl, rfl, rfl, wa⟩ := open_int Tryd.underlying5 (hval 0 5 v0 rfl rfl) h0
  obtain ⟨s1, rfl, rfl, rfl, hs1⟩ := open_string Tryd.underlying9 (hval 1 9 v1 rfl rfl) h1
  clear hA0 hval0
  have ba := bounds_u8 wa
  have hB : Value.int .u8 a = B (UInt8.ofNat a.toNat) := by
    rw [B]
    congr 1
    rw [UInt8.toNat_ofNat']
    omega
  rw [hB, S_of s1]
  refine (bytes_any fieldI (UInt8.ofNat a.toNat) s1.data.toList hs1 W).mono fun e W' ⟨he, hnx⟩ => ?_
  subst he
  rw [← hB, ← S_of s1]
  exact ⟨_, rfl, _, _, _, [], _, [], hW', trodAll_mk1 (shut_bool Tryd.underlying4 true),
    trodAll_mk2 (shut_int Tryd.underlying5 wa) (shut_string Tryd.underlying9 hs1), rfl, hnx.frame _, fun h => by cases h⟩

theorem bytes_holds : Rows.FieldBytesSaid :=
  OpenClaim.holds_of_wide 6 Tryd.f6 rfl rfl rfl rfl rfl rfl rfl ⟨rfl, rfl, rfl, rfl, rfl⟩ rfl rfl rfl rfl rfl (by kernel_rfl) Tryd.func6 (by kernel_rfl)
    (of_decide_eq_true (by kernel_rfl)) (by unfold Func.isWrapper; rw [if_neg (of_decide_eq_false (by kernel_rfl))]; exact ⟨rfl, rfl⟩)
    (fun os started H enc _ => bytes_lifted os started H enc)

theorem bytes_card : Rows.FieldBytesCardSaid :=
  Claim7.holds_tied_plain_at .later [] [.data, .pinned] true _ false
    bytes_holds (fun _ h => by cases h) (by kernel_rfl) (fun _ h => by cases h) fieldBytes_row_tie rfl ⟨rfl, rfl⟩ (by kernel_rfl) rfl
    (fun f fn hf hfn => by
      obtain rfl : f = 6 := Option.some.inj (hf.symm.trans (by kernel_rfl))
      obtain rfl : fn = Tryd.f6 := (Option.some.inj (Tryd.func6.symm.trans hfn)).symm
      exact ⟨by kernel_rfl, fun j t ht => by
        rw [Tryd.params6] at ht
        match j, ht with
        | 0, ht =>
          obtain rfl : t = 5 := by simpa using ht.symm
          exact (show Tryd.prog.wantsStandIn 5 = false by kernel_rfl)
        | 1, ht =>
          obtain rfl : t = 9 := by simpa using ht.symm
          exact (show Tryd.prog.wantsStandIn 9 = false by kernel_rfl)
        | j + 2, ht => simp at ht⟩)
    (by kernel_rfl)
end Go.Proofs.YtccccpbaolegcaaDoor
