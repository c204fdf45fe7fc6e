/- ChunkLong returns true for any byte, numbers and text: the same of a head's line, and of trailers, about as long as may be. No condition. The listed variables are tied to the program's text. -/
import Derived.Test.YtocekbfnefajhaaDoorCl
import Derived.Test.YtocekbfnefajhaaDoorCf
import Derived.Test.YtocekbfnefajhaaDoorCv
import Derived.Test.YtocekbfnefajhaaDoorOwn
import Derived.Test.YtocekbfnefajhaaDoorRows
import Derived.ProofKit
import Derived.Handed
import Derived.OpenShut
import Derived.Carry
import Derived.Test.YtocekbfnefajhaaDoorFive
import Derived.LaidLaws
import Derived.Lay
import Derived.Test.YtocekbfnefajhaaDoorTie
import Derived.Test.YtocekbfnefajhaaDoorCards
import Derived.SevenTiedAt
namespace Go.Proofs.YtocekbfnefajhaaDoor
open Go Go.ChangeShapes Go.WideShapes Go.ChangeAt Go.RowKit
open Go.ChangeMaps (open_string shut_string)
open Go.WideMaps Go.WideElems
noncomputable def start_ChunkLong (os : Os) : World := World.laidAll Tryd.prog os Rows.chunkLongRow.laid
theorem met_ChunkLong (os : Os) (args : Array Value) : laidMet Tryd.prog Rows.chunkLongRow.laid ((start_ChunkLong os).forCall (fun _ _ => 0) ⟨#[], args, []⟩).memory :=
  laidMet_laidAll _ (by kernel_rfl) (by kernel_rfl)
theorem os_ChunkLong (os : Os) : (start_ChunkLong os).os = os := World.laidAll_os _ _ _

set_option maxRecDepth 100000 in
theorem chunkLong_lifted (os : Os) (started : os.Started) (H : Type) (enc : TypeId × Value → H) :
    ReturnsInHanded {} Tryd.checked os 5 .any (fun w args => (Rows.chunkLongSpec.pre enc Tryd.prog Tryd.f5 Rows.chunkLongRow.domain false w args ∧ laidMet Tryd.prog Rows.chunkLongRow.laid w) ∧ sizedMet enc Tryd.prog Tryd.f5 (OpenSpec.ofChange Rows.chunkLongSpec) false w args)
      (Rows.chunkLongSpec.post enc Tryd.prog Tryd.f5 false true false false) := by
  refine returnsInHanded_of_change_and (C := Tryd.checked) (X := fun w _ => laidMet Tryd.prog Rows.chunkLongRow.laid w) (fun _ _ _ hh h => h.of_heap hh) Tryd.own started (by kernel_rfl) Tryd.func5
    (ChangeSpec.witness_shaped (enc := enc) (C := Tryd.checked) (os := os) (X := fun w _ => laidMet Tryd.prog Rows.chunkLongRow.laid w) false (start_ChunkLong os) #[.int .u8 0, .int .u16 0, .int .u16 0, .int .u8 0, .string ⟨#[]⟩] 8 (os_ChunkLong os)
      (World.shaped_of_ZipB (by kernel_rfl) (by kernel_rfl)) (by kernel_rfl) (by kernel_rfl) (by kernel_rfl) (met_ChunkLong os _)) ?_
  intro W base args ds gs before hval0 hW hcnd0 _ hL _
  have hval : ∀ (j : Nat) t v, Tryd.f5.params[j]? = some t → args[j]? = some v → Value.okWide Tryd.prog W .any base t v := hval0
  have hW' := hW
  obtain ⟨p, q, hA0, hV, rfl, hfz, hnd⟩ := hW
  have hA : DataW.TrodAll enc Tryd.prog W 0 (fun _ => true) true Tryd.f5.params.toList args.toList ds p := hA0
  rw [Tryd.params5] at hA hval
  obtain ⟨v0, v1, v2, v3, v4, d0, d1, d2, d3, d4, p0, p1, p2, p3, p4, rfl, rfl, rfl, h0, h1, h2, h3, h4⟩ := trodAll_five hA
  obtain ⟨rfl, rfl⟩ := trodVars_none hV
  obtain ⟨n0, rfl, rfl, rfl, wn0⟩ := open_int Tryd.underlying5 (hval 0 5 v0 rfl rfl) h0
  obtain ⟨n1, rfl, rfl, rfl, wn1⟩ := open_int Tryd.underlying34 (hval 1 34 v1 rfl rfl) h1
  obtain ⟨n2, rfl, rfl, rfl, wn2⟩ := open_int Tryd.underlying34 (hval 2 34 v2 rfl rfl) h2
  obtain ⟨n3, rfl, rfl, rfl, wn3⟩ := open_int Tryd.underlying5 (hval 3 5 v3 rfl rfl) h3
  obtain ⟨s4, rfl, rfl, rfl, hs4⟩ := open_string Tryd.underlying9 (hval 4 9 v4 rfl rfl) h4
  clear hA0 hval0
  have bn0 := bounds_u8 wn0
  have hB0 : Value.int .u8 n0 = B (UInt8.ofNat n0.toNat) := by
    rw [B]
    congr 1
    rw [UInt8.toNat_ofNat']
    omega
  have bn1 := bounds_u16 wn1
  obtain ⟨m1, rfl⟩ : ∃ m : Nat, n1 = (m : Int) := ⟨n1.toNat, by omega⟩
  have bn2 := bounds_u16 wn2
  obtain ⟨m2, rfl⟩ : ∃ m : Nat, n2 = (m : Int) := ⟨n2.toNat, by omega⟩
  have bn3 := bounds_u8 wn3
  obtain ⟨m3, rfl⟩ : ∃ m : Nat, n3 = (m : Int) := ⟨n3.toNat, by omega⟩
  rw [hB0, S_of s4]
  refine (clong_any chunkI docReads (UInt8.ofNat n0.toNat) m1 m2 (by omega) (by omega) m3 (by omega) s4.data.toList hs4 W).mono fun e W' ⟨he, hnx⟩ => ?_
  subst he
  rw [← hB0, ← S_of s4]
  exact ⟨_, rfl, _, _, _, [], _, [], hW', trodAll_mk1 (shut_bool Tryd.underlying4 true),
    trodAll_mk5 (shut_int Tryd.underlying5 wn0) (shut_int Tryd.underlying34 wn1) (shut_int Tryd.underlying34 wn2) (shut_int Tryd.underlying5 wn3) (shut_string Tryd.underlying9 hs4), rfl, hnx.frame _, fun h => by cases h⟩

theorem chunkLong_holds : Rows.ChunkLongSaid :=
  OpenClaim.holds_of_wide 5 Tryd.f5 rfl rfl rfl rfl rfl rfl rfl ⟨rfl, rfl, rfl, rfl, rfl⟩ rfl rfl rfl rfl rfl (by kernel_rfl) Tryd.func5 (by kernel_rfl)
    (of_decide_eq_true (by kernel_rfl)) (by unfold Func.isWrapper; rw [if_neg (of_decide_eq_false (by kernel_rfl))]; exact ⟨rfl, rfl⟩)
    (fun os started H enc _ => chunkLong_lifted os started H enc)

theorem chunkLong_card : Rows.ChunkLongCardSaid :=
  Claim7.holds_tied_plain_at .later [] [.data, .pinned] true _ false
    chunkLong_holds (fun _ h => by cases h) (by kernel_rfl) (fun _ h => by cases h) chunkLong_row_tie rfl ⟨rfl, rfl⟩ (by kernel_rfl) rfl
    (fun f fn hf hfn => by
      obtain rfl : f = 5 := Option.some.inj (hf.symm.trans (by kernel_rfl))
      obtain rfl : fn = Tryd.f5 := (Option.some.inj (Tryd.func5.symm.trans hfn)).symm
      exact ⟨by kernel_rfl, fun j t ht => by
        rw [Tryd.params5] at ht
        match j, ht with
        | 0, ht =>
          obtain rfl : t = 5 := by simpa using ht.symm
          exact (show Tryd.prog.wantsStandIn 5 = false by kernel_rfl)
        | 1, ht =>
          obtain rfl : t = 34 := by simpa using ht.symm
          exact (show Tryd.prog.wantsStandIn 34 = false by kernel_rfl)
        | 2, ht =>
          obtain rfl : t = 34 := by simpa using ht.symm
          exact (show Tryd.prog.wantsStandIn 34 = false by kernel_rfl)
        | 3, ht =>
          obtain rfl : t = 5 := by simpa using ht.symm
          exact (show Tryd.prog.wantsStandIn 5 = false by kernel_rfl)
        | 4, ht =>
          obtain rfl : t = 9 := by simpa using ht.symm
          exact (show Tryd.prog.wantsStandIn 9 = false by kernel_rfl)
        | j + 5, ht => simp at ht⟩)
    (by kernel_rfl)
end Go.Proofs.YtocekbfnefajhaaDoor
