/- What is asked of the package of chunks; awake walked over it. -/
import Derived.Test.YtocekbfnefajhaaDoorCm3
import Derived.Test.YtocekbfnefajhaaDoorMv
import Derived.Test.YtocekbfnefajhaaDoorProg
namespace Go.Proofs.YtocekbfnefajhaaDoor
open Go.RowKit
attribute [local go_sem] store_one S_match S_store

/-- What is asked of the package: a shape (the reader of block g may turn the blocks F; it stands as st), and what each call does. -/
structure ChunkI (RA : World → (Nat → Prop) → Nat → Cst → Prop) : Prop where
  lt : ∀ {w : World} {F : Nat → Prop} {g : Nat} {st : Cst}, RA w F g st → F g ∧ ∀ k, F k → k < w.heap.size
  same : ∀ {w w' : World} {F : Nat → Prop} {g : Nat} {st : Cst}, RA w F g st → w.heap.size ≤ w'.heap.size → (∀ k, F k → w'.heap[k]? = w.heap[k]?) → RA w' F g st
  new : ∀ (w : World), Calls Tryd.prog 11 #[] w fun e w' => ∃ g F, e = .returned (.pointer (some ⟨g, 0, none⟩)) ∧ RA w' F g Cst.new ∧ (∀ k, F k → w.heap.size ≤ k) ∧ Below w.heap.size w w'
  feed : ∀ {w : World} {F : Nat → Prop} {g : Nat} {st : Cst} (s : List UInt8), RA w F g st → s.length ≤ 100000 → Calls Tryd.prog 12 #[.pointer (some ⟨g, 0, none⟩), S s] w fun e w' => e = .returned (.int .i64 ((st.run s).1 : Int)) ∧ ∃ F', RA w' F' g (st.run s).2 ∧ Moves F F' w w'
  data : ∀ {w : World} {F : Nat → Prop} {g : Nat} {st : Cst}, RA w F g st → Calls Tryd.prog 16 #[.pointer (some ⟨g, 0, none⟩)] w fun e w' => e = .returned (S st.data) ∧ Below w.heap.size w w'
  done : ∀ {w : World} {F : Nat → Prop} {g : Nat} {st : Cst}, RA w F g st → Calls Tryd.prog 15 #[.pointer (some ⟨g, 0, none⟩)] w fun e w' => e = .returned (.bool st.isDone) ∧ Below w.heap.size w w'
  bad : ∀ {w : World} {F : Nat → Prop} {g : Nat} {st : Cst}, RA w F g st → Calls Tryd.prog 18 #[.pointer (some ⟨g, 0, none⟩)] w fun e w' => e = .returned (.int .i64 (st.badN : Int)) ∧ Below w.heap.size w w'
  feed0 : ∀ (s : List UInt8) (w : World), s.length ≤ 100000 → Calls Tryd.prog 12 #[.pointer none, S s] w fun e w' => e = .returned (.int .i64 0) ∧ Below w.heap.size w w'
  data0 : ∀ (w : World), Calls Tryd.prog 16 #[.pointer none] w fun e w' => e = .returned (S []) ∧ Below w.heap.size w w'
  done0 : ∀ (w : World), Calls Tryd.prog 15 #[.pointer none] w fun e w' => e = .returned (.bool false) ∧ Below w.heap.size w w'
  bad0 : ∀ (w : World), Calls Tryd.prog 18 #[.pointer none] w fun e w' => e = .returned (.int .i64 400) ∧ Below w.heap.size w w'
section
variable {RA : World → (Nat → Prop) → Nat → Cst → Prop} {w w' : World} {F F' G : Nat → Prop} {g : Nat} {st : Cst}
theorem ChunkI.below (C : ChunkI RA) (h : RA w F g st) (hb : Below w.heap.size w w') : RA w' F g st := C.same h hb.size (fun k hk => hb.block k ((C.lt h).2 k hk))
/-- A reader beside what moves. -/
theorem ChunkI.aside (C : ChunkI RA) (h : RA w G g st) (hm : Moves F F' w w') (hd : ∀ k, G k → ¬ F k) : RA w' G g st ∧ ∀ k, G k → ¬ F' k := by
  have := hm.apart (G := G) (fun k hk => ⟨(C.lt h).2 k hk, hd k hk⟩)
  exact ⟨C.same h hm.size this.1, fun k hk => (this.2 k hk).2⟩
end
/-- 5;a=b, hello, 0, an empty line, more. -/
def helloL : List UInt8 := [53, 59, 97, 61, 98, 13, 10, 104, 101, 108, 108, 111, 13, 10, 48, 13, 10, 13, 10, 109, 111, 114, 101]
theorem hello_run : Cst.new.run helloL = (19, ⟨.done, [104, 101, 108, 108, 111]⟩) := by rfl
set_option maxRecDepth 100000 in
set_option maxHeartbeats 1000000 in
theorem awake_chunk {RA : World → (Nat → Prop) → Nat → Cst → Prop} (C : ChunkI RA) (w : World) : Calls Tryd.prog 14 #[] w fun e w' => e = .returned (.bool true) ∧ Below w.heap.size w w' := by
  have HC := Lib.hid C
  clear C
  go_enter Tryd.func14, Tryd.ntmps14
  go_wp2_with fail
  refine (HC.out.new w).mono ?_
  rintro e W1 ⟨g, F, rfl, hR, hF, hB⟩
  have H1 := Lib.hid (And.intro hR (And.intro hF hB))
  clear hR hF hB
  have hf : Calls Tryd.prog 12 #[.pointer (some ⟨g, 0, none⟩), .string ⟨#[53, 59, 97, 61, 98, 13, 10, 104, 101, 108, 108, 111, 13, 10, 48, 13, 10, 13, 10, 109, 111, 114, 101]⟩] W1 fun e w' =>
      e = .returned (.int .i64 19) ∧ ∃ F', RA w' F' g ⟨.done, [104, 101, 108, 108, 111]⟩ ∧ Moves F F' W1 w' := by
    have := HC.out.feed helloL H1.out.1 (by decide)
    rw [hello_run] at this
    exact this
  have HF := Lib.hid hf
  clear hf
  go_wp2_with fail
  refine HF.out.mono ?_
  rintro e W2 ⟨rfl, F', hR, hM⟩
  have H2 : Hid (RA W2 F' g ⟨.done, [104, 101, 108, 108, 111]⟩ ∧ Below w.heap.size w W2) := Lib.hid ⟨hR, H1.out.2.2.trans (hM.below H1.out.2.1 H1.out.2.2.size)⟩
  clear hR hM HF
  go_wp2_with fail
  refine (HC.out.data H2.out.1).mono ?_
  rintro e W3 ⟨rfl, hB⟩
  have H3 : Hid (RA W3 F' g ⟨.done, [104, 101, 108, 108, 111]⟩ ∧ Below w.heap.size w W3) := Lib.hid ⟨HC.out.below H2.out.1 hB, H2.out.2.trans (hB.mono H2.out.2.size)⟩
  clear hB H2
  dsimp only [S]
  go_wp2_with fail
  refine (HC.out.done H3.out.1).mono ?_
  rintro e W4 ⟨rfl, hB⟩
  have H4 : Hid (RA W4 F' g ⟨.done, [104, 101, 108, 108, 111]⟩ ∧ Below w.heap.size w W4) := Lib.hid ⟨HC.out.below H3.out.1 hB, H3.out.2.trans (hB.mono H3.out.2.size)⟩
  clear hB H3
  rw [show Cst.isDone ⟨.done, [104, 101, 108, 108, 111]⟩ = true from rfl]
  go_wp2_with fail
  refine (HC.out.bad H4.out.1).mono ?_
  rintro e W5 ⟨rfl, hB⟩
  have H5 := Lib.hid (H4.out.2.trans (hB.mono H4.out.2.size))
  clear hB H4
  rw [show ((Cst.badN ⟨.done, [104, 101, 108, 108, 111]⟩ : Nat) : Int) = 0 from rfl]
  go_wp2
  go_ret
  exact ⟨rfl, H5.out⟩
end Go.Proofs.YtocekbfnefajhaaDoor
