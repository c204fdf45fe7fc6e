/- ChunkBack returns true for any text, cuts and text behind: a text, cut into chunks, is read as that text; what stands behind is not read. No condition. The listed variables are tied to the program's text. -/
import Derived.Test.YtocekbfnefajhaaDoorCu
import Derived.Test.YtocekbfnefajhaaDoorCs
import Derived.Test.YtocekbfnefajhaaDoorCv
import Derived.Test.YtocekbfnefajhaaDoorOwn
import Derived.Test.YtocekbfnefajhaaDoorRows
import Derived.ProofKit
import Derived.Handed
import Derived.OpenShut
import Derived.Carry
import Derived.LaidLaws
import Derived.Lay
import Derived.Test.YtocekbfnefajhaaDoorTie
import Derived.Test.YtocekbfnefajhaaDoorCards
import Derived.SevenTiedAt
namespace Go.Proofs.YtocekbfnefajhaaDoor
open Go Go.ChangeShapes Go.WideShapes Go.ChangeAt Go.RowKit
open Go.ChangeMaps (open_string shut_string)
open Go.WideMaps Go.WideElems
noncomputable def start_ChunkBack (os : Os) : World := World.laidAll Tryd.prog os Rows.chunkBackRow.laid
theorem met_ChunkBack (os : Os) (args : Array Value) : laidMet Tryd.prog Rows.chunkBackRow.laid ((start_ChunkBack os).forCall (fun _ _ => 0) ⟨#[], args, []⟩).memory :=
  laidMet_laidAll _ (by kernel_rfl) (by kernel_rfl)
theorem os_ChunkBack (os : Os) : (start_ChunkBack os).os = os := World.laidAll_os _ _ _

set_option maxRecDepth 100000 in
theorem chunkBack_lifted (os : Os) (started : os.Started) (H : Type) (enc : TypeId × Value → H) :
    ReturnsInHanded {} Tryd.checked os 8 .any (fun w args => (Rows.chunkBackSpec.pre enc Tryd.prog Tryd.f8 Rows.chunkBackRow.domain false w args ∧ laidMet Tryd.prog Rows.chunkBackRow.laid w) ∧ sizedMet enc Tryd.prog Tryd.f8 (OpenSpec.ofChange Rows.chunkBackSpec) false w args)
      (Rows.chunkBackSpec.post enc Tryd.prog Tryd.f8 false true false false) := by
  refine returnsInHanded_of_change_and (C := Tryd.checked) (X := fun w _ => laidMet Tryd.prog Rows.chunkBackRow.laid w) (fun _ _ _ hh h => h.of_heap hh) Tryd.own started (by kernel_rfl) Tryd.func8
    (ChangeSpec.witness_shaped (enc := enc) (C := Tryd.checked) (os := os) (X := fun w _ => laidMet Tryd.prog Rows.chunkBackRow.laid w) false (start_ChunkBack os) #[.string ⟨#[]⟩, .slice none 0 0, .bool false, .string ⟨#[]⟩] 8 (os_ChunkBack os)
      (World.shaped_of_ZipB (by kernel_rfl) (by kernel_rfl)) (by kernel_rfl) (by kernel_rfl) (by kernel_rfl) (met_ChunkBack os _)) ?_
  intro W base args ds gs before hval0 hW hcnd0 _ hL _
  have hval : ∀ (j : Nat) t v, Tryd.f8.params[j]? = some t → args[j]? = some v → Value.okWide Tryd.prog W .any base t v := hval0
  have hW' := hW
  obtain ⟨p, q, hA0, hV, rfl, hfz, hnd⟩ := hW
  have hA : DataW.TrodAll enc Tryd.prog W 0 (fun _ => true) true Tryd.f8.params.toList args.toList ds p := hA0
  rw [Tryd.params8] at hA hval
  obtain ⟨v0, v1, v2, v3, d0, d1, d2, d3, p0, p1, p2, p3, rfl, rfl, rfl, h0, h1, h2, h3⟩ := trodAll_four hA
  obtain ⟨rfl, rfl⟩ := trodVars_none hV
  obtain ⟨s0, rfl, rfl, rfl, hs0⟩ := open_string Tryd.underlying9 (hval 0 9 v0 rfl rfl) h0
  obtain ⟨a1, len1, cap1, rfl⟩ := okWide_slice Tryd.underlying35 (hval 1 35 v1 rfl rfl)
  obtain ⟨b2, rfl, rfl, rfl⟩ := open_bool Tryd.underlying4 (hval 2 4 v2 rfl rfl) h2
  obtain ⟨s3, rfl, rfl, rfl, hs3⟩ := open_string Tryd.underlying9 (hval 3 9 v3 rfl rfl) h3
  have h1k := h1
  obtain ⟨fuel1, hf1⟩ := h1
  clear hA0 hval0
  have hW2 := hW'
  simp only [List.append_nil, List.nil_append] at hW2
  have hlt1 : ∀ x ∈ p1, x.block < W.heap.size := fun x hx => by simpa using hW2.lt x (by simp [hx])
  obtain ⟨ad1, z1, hcame1, hzb1⟩ := came_nums Tryd.underlying35 Tryd.underlying5 cells5 (fun w => Tryd.sizeOf5 w) (by simpa [Value.cells] using hf1)
  obtain ⟨hcame1, hzb1⟩ := bytes_came hcame1 hzb1
  rw [S_of s0, S_of s3]
  refine (cback_any chunkI hexI s0.data.toList (.slice a1 len1 cap1) len1 ad1 _ b2 s3.data.toList hs0 hs3 W (zero_of_laid hL) hcame1 hzb1).mono fun e W' ⟨he, hnx⟩ => ?_
  subst he
  rw [← S_of s0, ← S_of s3]
  exact ⟨_, rfl, _, _, _, [], [] ++ (p1 ++ ([] ++ [])), [], hW', trodAll_mk1 (shut_bool Tryd.underlying4 true),
    trodAll_mk4 (shut_string Tryd.underlying9 hs0) (Below.trod Tryd.laidOut (by kernel_rfl) (of_decide_eq_true (by kernel_rfl)) h1k hnx hlt1) (shut_bool Tryd.underlying4 b2) (shut_string Tryd.underlying9 hs3), rfl, hnx.frame _, fun h => by cases h⟩

theorem chunkBack_holds : Rows.ChunkBackSaid :=
  OpenClaim.holds_of_wide 8 Tryd.f8 rfl rfl rfl rfl rfl rfl rfl ⟨rfl, rfl, rfl, rfl, rfl⟩ rfl rfl rfl rfl rfl (by kernel_rfl) Tryd.func8 (by kernel_rfl)
    (of_decide_eq_true (by kernel_rfl)) (by unfold Func.isWrapper; rw [if_neg (of_decide_eq_false (by kernel_rfl))]; exact ⟨rfl, rfl⟩)
    (fun os started H enc _ => chunkBack_lifted os started H enc)

theorem chunkBack_card : Rows.ChunkBackCardSaid :=
  Claim7.holds_tied_plain_at .later [] [.data, .data, .data, .data, .pinned] true _ false
    chunkBack_holds (fun _ h => by cases h) (by kernel_rfl) (fun _ h => by cases h) chunkBack_row_tie rfl ⟨rfl, rfl⟩ (by kernel_rfl) rfl
    (fun f fn hf hfn => by
      obtain rfl : f = 8 := Option.some.inj (hf.symm.trans (by kernel_rfl))
      obtain rfl : fn = Tryd.f8 := (Option.some.inj (Tryd.func8.symm.trans hfn)).symm
      exact ⟨by kernel_rfl, fun j t ht => by
        rw [Tryd.params8] at ht
        match j, ht with
        | 0, ht =>
          obtain rfl : t = 9 := by simpa using ht.symm
          exact (show Tryd.prog.wantsStandIn 9 = false by kernel_rfl)
        | 1, ht =>
          obtain rfl : t = 35 := by simpa using ht.symm
          exact (show Tryd.prog.wantsStandIn 35 = false by kernel_rfl)
        | 2, ht =>
          obtain rfl : t = 4 := by simpa using ht.symm
          exact (show Tryd.prog.wantsStandIn 4 = false by kernel_rfl)
        | 3, ht =>
          obtain rfl : t = 9 := by simpa using ht.symm
          exact (show Tryd.prog.wantsStandIn 9 = false by kernel_rfl)
        | j + 4, ht => simp at ht⟩)
    (by kernel_rfl)
end Go.Proofs.YtocekbfnefajhaaDoor
