/- What is asked of the package of fields; awake walked over it. -/
import Derived.Test.YtccccpbaolegcaaDoorF6
import Derived.Laws.StructEq
namespace Go.Proofs.YtccccpbaolegcaaDoor
open Go.RowKit
attribute [local go_sem] store_one S_match S_store

def encS (p : List UInt8) : Array Value := #[S p]
/-- What is asked of the package: each call's answer is the document's. -/
structure FieldI : Prop where
  token : ∀ (s : List UInt8) (w : World), s.length ≤ 100000 → Calls Tryd.prog 15 #[S s] w fun e w' => e = .returned (.bool (tokF s)) ∧ Below w.heap.size w w'
  parse : ∀ (s : List UInt8) (w : World), s.length ≤ 100000 → Calls Tryd.prog 10 #[S s] w fun e w' => e = .returned (parseV (parseF s)) ∧ Below w.heap.size w w'
  alike : ∀ (a b : List UInt8) (w : World), a.length ≤ 100000 → b.length ≤ 100000 → Calls Tryd.prog 16 #[S a, S b] w fun e w' => e = .returned (.bool (alikeF a b)) ∧ Below w.heap.size w w'
  has : ∀ (s t : List UInt8) (w : World), s.length ≤ 100000 → t.length ≤ 100000 → Calls Tryd.prog 14 #[S s, S t] w fun e w' => e = .returned (.bool (hasF s t)) ∧ Below w.heap.size w w'
  get : ∀ (V : Value) (n b o : Nat) (nm vl : Nat → List UInt8) (t : List UInt8) (w : World), t.length ≤ 100000 → Flds w V n b o nm vl →
    Calls Tryd.prog 12 #[V, S t] w fun e w' => e = .returned (.tuple #[S (getR nm vl t n n).1, .int .i64 ((getR nm vl t n n).2 : Int)]) ∧ Below w.heap.size w w'
  each : ∀ (s : List UInt8) (w : World), s.length ≤ 100000 → Calls Tryd.prog 11 #[S s] w fun e w' => ∃ gf lb k Kb, e = .returned (.func (.func gf) #[] lb) ∧ Below w.heap.size w w' ∧ (∀ r, Kb r → w.heap.size ≤ r ∧ r < w'.heap.size) ∧
    (∀ args W, (callFunc gf args).run Tryd.prog W = .ok (.enter gf args) W) ∧ ∀ n, SeqL Tryd.prog n gf lb encS k Kb (partsF s) (fun W => Below w'.heap.size w' W)

/-- Two fields in a row. -/
theorem flds_two {w : World} {b : Nat} {n0 v0 n1 v1 : List UInt8} (hr : Row w b #[S n0, S v0, S n1, S v1] 23) (h0 : n0.length ≤ 100000) (h1 : n1.length ≤ 100000) :
    Flds w (.slice (some ⟨b, 0, none⟩) 2 2) 2 b 0 (fun i => if i = 0 then n0 else n1) (fun i => if i = 0 then v0 else v1) := by
  refine ⟨⟨fun i j => if i = 0 then (if j = 0 then S n0 else S v0) else (if j = 0 then S n1 else S v1), ⟨fun T w' => ?_, fun i hi w' => ?_, fun i j hi hj => ?_⟩, fun i hi => ?_⟩, by omega, fun i hi => ?_⟩
  · simp [Builtin.len_, run_underlying Tryd.underlying36, Result.andThen, goInt]
  · exact run_index_at Tryd.underlying36 (fun w => Tryd.sizeOf23 w) b 0 2 2 i hi w'
  · rw [cell_of_row w b _ _ _ _ hr]
    rcases Nat.lt_or_ge i 1 with h | h <;> rcases Nat.lt_or_ge j 1 with h' | h'
    · obtain rfl : i = 0 := by omega
      obtain rfl : j = 0 := by omega
      rfl
    · obtain rfl : i = 0 := by omega
      obtain rfl : j = 1 := by omega
      rfl
    · obtain rfl : i = 1 := by omega
      obtain rfl : j = 0 := by omega
      rfl
    · obtain rfl : i = 1 := by omega
      obtain rfl : j = 1 := by omega
      rfl
  · rcases Nat.lt_or_ge i 1 with h | h
    · obtain rfl : i = 0 := by omega
      exact ⟨rfl, rfl⟩
    · obtain rfl : i = 1 := by omega
      exact ⟨rfl, rfl⟩
  · rcases Nat.lt_or_ge i 1 with h | h
    · obtain rfl : i = 0 := by omega
      exact h0
    · obtain rfl : i = 1 := by omega
      exact h1
set_option maxRecDepth 100000 in
set_option maxHeartbeats 1000000 in
theorem awake_any (F : FieldI) (w : World) : Calls Tryd.prog 13 #[] w fun e w' => e = .returned (.bool true) ∧ Below w.heap.size w w' := by
  have h1 : ∀ w, Calls Tryd.prog 10 #[.string ⟨#[72, 111, 115, 116, 58, 32, 97, 32, 98, 32]⟩] w fun e w' => e = .returned (.tuple #[.agg #[.string ⟨#[72, 111, 115, 116]⟩, .string ⟨#[97, 32, 98]⟩], .bool true]) ∧ Below w.heap.size w w' := fun w => F.parse [72, 111, 115, 116, 58, 32, 97, 32, 98, 32] w (by decide)
  go_enter Tryd.func13, Tryd.ntmps13
  go_wp2_with fail
  refine (h1 w).mono ?_
  rintro e W1 ⟨rfl, hb1⟩
  have HB1 := Lib.hid hb1
  clear h1 hb1
  go_wp2_with fail
  obtain ⟨b, hb⟩ : ∃ b, b = W1.heap.size := ⟨_, rfl⟩
  obtain ⟨W2, hW2⟩ : ∃ W2, W2 = (W1.alloc (.cells #[.string ⟨#[72, 111, 115, 116]⟩, .string ⟨#[97, 32, 98]⟩] 23)).alloc (.cells #[.string ⟨#[72, 111, 115, 116]⟩, .string ⟨#[97, 32, 98]⟩, .string ⟨#[72, 79, 83, 84]⟩, .string ⟨#[121]⟩] 23) := ⟨_, rfl⟩
  have hr1 : Row W2 b #[.string ⟨#[72, 111, 115, 116]⟩, .string ⟨#[97, 32, 98]⟩] 23 := by rw [hW2, hb]; exact (row_new W1 _ _).alloc _
  have hr2 : Row W2 (b + 1) #[.string ⟨#[72, 111, 115, 116]⟩, .string ⟨#[97, 32, 98]⟩, .string ⟨#[72, 79, 83, 84]⟩, .string ⟨#[121]⟩] 23 := by
    rw [hW2, hb]
    have := row_new (W1.alloc (.cells #[.string ⟨#[72, 111, 115, 116]⟩, .string ⟨#[97, 32, 98]⟩] 23)) #[.string ⟨#[72, 111, 115, 116]⟩, .string ⟨#[97, 32, 98]⟩, .string ⟨#[72, 79, 83, 84]⟩, .string ⟨#[121]⟩] 23
    rw [alloc_size] at this; exact this
  have hb2 : Below w.heap.size w W2 := by rw [hW2]; exact (HB1.out.alloc HB1.out.size _).alloc (by have := HB1.out.size; simp; omega) _
  have h2 : Calls Tryd.prog 12 #[.slice (some ⟨b + 1, 0, none⟩) 2 2, .string ⟨#[104, 111, 115, 116]⟩] W2 fun e w' => e = .returned (.tuple #[.string ⟨#[97, 32, 98]⟩, .int .i64 2]) ∧ Below W2.heap.size W2 w' :=
    F.get _ 2 (b + 1) 0 _ _ [104, 111, 115, 116] W2 (by decide) (flds_two (n0 := [72, 111, 115, 116]) (v0 := [97, 32, 98]) (n1 := [72, 79, 83, 84]) (v1 := [121]) hr2 (by decide) (by decide))
  rw [← hb, ← hW2]
  have HB2 := Lib.hid (And.intro hb2 hr1)
  clear hW2 hb hr1 hr2 hb2 HB1
  refine h2.mono ?_
  rintro e W3 ⟨rfl, hb3⟩
  have hr3 := HB2.out.2.below hb3 HB2.out.2.lt
  have HB3 := Lib.hid (HB2.out.1.trans (hb3.mono HB2.out.1.size))
  have c0 : W3.cell? ⟨b, 0, none⟩ = some (.string ⟨#[72, 111, 115, 116]⟩) := cell_of_row W3 _ 0 _ 23 (0, 0) hr3
  have c1 : W3.cell? ⟨b, 1, none⟩ = some (.string ⟨#[97, 32, 98]⟩) := cell_of_row W3 _ 1 _ 23 (0, 0) hr3
  have heq : ∀ w, (binOp .eql 23 (.agg #[.string ⟨#[72, 111, 115, 116]⟩, .string ⟨#[97, 32, 98]⟩]) (.agg #[.string ⟨#[72, 111, 115, 116]⟩, .string ⟨#[97, 32, 98]⟩])).run Tryd.prog w = .ok (.bool true) w := fun w => by
    simp [go_sem, run_eql_struct]
  clear h2 hb3 hr3
  go_wp2_with fail
  have h4 : Calls Tryd.prog 15 #[.string ⟨#[72, 111, 115, 116]⟩] W3 fun e w' => e = .returned (.bool true) ∧ Below W3.heap.size W3 w' := F.token [72, 111, 115, 116] W3 (by decide)
  refine h4.mono ?_
  rintro e W4 ⟨rfl, hb4⟩
  have HB4 := Lib.hid (HB3.out.trans (hb4.mono HB3.out.size))
  clear h4 hb4 c0 c1 heq HB3
  have h5 : Calls Tryd.prog 16 #[.string ⟨#[104, 79, 83, 84]⟩, .string ⟨#[72, 111, 115, 116]⟩] W4 fun e w' => e = .returned (.bool true) ∧ Below W4.heap.size W4 w' := F.alike [104, 79, 83, 84] [72, 111, 115, 116] W4 (by decide) (by decide)
  go_wp2_with fail
  refine h5.mono ?_
  rintro e W5 ⟨rfl, hb5⟩
  have HB5 := Lib.hid (HB4.out.trans (hb5.mono HB4.out.size))
  clear h5 hb5 HB4
  have h6 : Calls Tryd.prog 14 #[.string ⟨#[107, 101, 101, 112, 45, 97, 108, 105, 118, 101, 44, 32, 85, 112, 103, 114, 97, 100, 101]⟩, .string ⟨#[117, 112, 103, 114, 97, 100, 101]⟩] W5 fun e w' => e = .returned (.bool true) ∧ Below W5.heap.size W5 w' :=
    F.has [107, 101, 101, 112, 45, 97, 108, 105, 118, 101, 44, 32, 85, 112, 103, 114, 97, 100, 101] [117, 112, 103, 114, 97, 100, 101] W5 (by decide) (by decide)
  go_wp2_with fail
  refine h6.mono ?_
  rintro e W6 ⟨rfl, hb6⟩
  have HB6 := Lib.hid (HB5.out.trans (hb6.mono HB5.out.size))
  clear h6 hb6 HB5
  go_wp2
  go_ret
  exact ⟨rfl, HB6.out⟩
end Go.Proofs.YtccccpbaolegcaaDoor
