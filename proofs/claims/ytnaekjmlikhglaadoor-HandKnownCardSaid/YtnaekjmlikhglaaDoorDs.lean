/- The document's Same, of two replies that are the same. -/
import Derived.Test.YtnaekjmlikhglaaDoorDe
namespace Go.Proofs.YtnaekjmlikhglaaDoor
open Go.RowKit
attribute [local go_sem] store_one S_match S_store

def rpC17 (c : Int) (V : Value) (body : DTx) : Array Value := #[.int .i64 c, V, S body]
set_option maxRecDepth 100000 in
set_option maxHeartbeats 2000000 in
theorem same17_true (c : Int) (body : DTx) (fs : List (DTx × DTx)) (Va Vb : Value) (ga oa gb ob : Nat) (hlen : fs.length ≤ 1000000) (w : World) (ha : FA w Va fs ga oa) (hb : FA w Vb fs gb ob) :
    Calls Tryd.prog 15 #[.agg (rpC17 c Va body), .agg (rpC17 c Vb body)] w fun e w' => e = .returned (.bool true) ∧ Below w.heap.size w w' := by
  unfold rpC17
  obtain ⟨b1, hb1⟩ : ∃ b, b = w.heap.size := ⟨_, rfl⟩
  obtain ⟨b2, hb2⟩ : ∃ b, b = w.heap.size + 1 := ⟨_, rfl⟩
  obtain ⟨W2, hW2⟩ : ∃ W, W = (w.alloc (.cells #[.int .i64 c, Va, S body] 30)).alloc (.cells #[.int .i64 c, Vb, S body] 30) := ⟨_, rfl⟩
  have hr1 : Row W2 b1 #[.int .i64 c, Va, S body] 30 := by rw [hW2, hb1]; exact (row_new w _ _).alloc _
  have hr2 : Row W2 b2 #[.int .i64 c, Vb, S body] 30 := by
    have := row_new (w.alloc (.cells #[.int .i64 c, Va, S body] 30)) #[.int .i64 c, Vb, S body] 30
    rw [alloc_size] at this
    rw [hW2, hb2]; exact this
  have hB2 : Below w.heap.size w W2 := by rw [hW2]; exact ((Below.refl _ w).alloc (Nat.le_refl _) _).alloc (by simp) _
  have hla := ha.len 3
  have hlb := hb.len 3
  have HH := Lib.hid (And.intro ha (And.intro hb (And.intro hr1 (And.intro hr2 hB2))))
  obtain ⟨N, hN⟩ : ∃ N, N = fs.length := ⟨_, rfl⟩
  rw [← hN] at hla hlb hlen
  have HN := Lib.hid hN
  clear hN ha hb hB2
  have c4 : W2.cell? ⟨b1, 1, none⟩ = some (Va) := cell_of_row W2 _ 1 _ 30 (0, 0) hr1
  have d4 : W2.cell? ⟨b2, 1, none⟩ = some (Vb) := cell_of_row W2 _ 1 _ 30 (0, 0) hr2
  clear hr1 hr2
  go_enter Tryd.func15, Tryd.ntmps15
  go_wp2_with fail
  all_goals try rw [← hW2, ← hb2, ← hb1]
  clear hW2 hb1 hb2 c4 d4
  go_loopw [5] (fun iv wr => ∃ i : Nat, i ≤ N ∧ iv = .int .i64 (i : Int) ∧ Below W2.heap.size W2 wr) (fun iv _ => N - (intOf iv).toNat)
  case atStart => exact ⟨0, Nat.zero_le _, rfl, Below.refl _ _⟩
  case round =>
    obtain ⟨i, hi, rfl, hB⟩ := hrel
    have hr1 := HH.out.2.2.1.below hB HH.out.2.2.1.lt
    have hr2 := HH.out.2.2.2.1.below hB HH.out.2.2.2.1.lt
    have HB : Hid (Below w.heap.size w wr) := Lib.hid (HH.out.2.2.2.2.trans (hB.mono HH.out.2.2.2.2.size))
    have HB2 := Lib.hid hB
    clear hB
    by_cases hlt : i < N
    · have g1 : decide ((i : Int) < (N : Int)) = true := decide_eq_true (by omega)
      obtain ⟨⟨n, u⟩, hf⟩ : ∃ f, fs[i]? = some f := ⟨fs[i]'(by have := HN.out; omega), List.getElem?_eq_getElem _⟩
      have ha := HH.out.1.below HB.out
      have hb := HH.out.2.1.below HB.out
      have hia := ha.index i (by have := HN.out; omega)
      have hib := hb.index i (by have := HN.out; omega)
      have ca := ha.cell i _ hf
      have cb := hb.cell i _ hf
      obtain ⟨ka, hka⟩ : ∃ k, k = oa + i * 2 := ⟨_, rfl⟩
      obtain ⟨kb, hkb⟩ : ∃ k, k = ob + i * 2 := ⟨_, rfl⟩
      rw [← hka] at hia ca
      rw [← hkb] at hib cb
      have ca0 : wr.cell? ⟨ga, ka, none⟩ = some (S n) := ca.1
      have ca1 : wr.cell? ⟨ga, ka + 1, none⟩ = some (S u) := ca.2
      have cb0 : wr.cell? ⟨gb, kb, none⟩ = some (S n) := cb.1
      have cb1 : wr.cell? ⟨gb, kb + 1, none⟩ = some (S u) := cb.2
      have ea0 : wr.drew.cell? ⟨ga, ka, none⟩ = some (S n) := ca.1
      have ea1 : wr.drew.cell? ⟨ga, ka + 1, none⟩ = some (S u) := ca.2
      have eb0 : wr.drew.cell? ⟨gb, kb, none⟩ = some (S n) := cb.1
      have eb1 : wr.drew.cell? ⟨gb, kb + 1, none⟩ = some (S u) := cb.2
      have hw1 : IntKind.i64.wrap ((i : Int) + 1) = (i : Int) + 1 := by rw [IntKind.wrap_i64]; omega
      have q1 := eq_self n
      have q2 := eq_self u
      have c4 : wr.cell? ⟨b1, 1, none⟩ = some (Va) := cell_of_row wr _ 1 _ 30 (0, 0) hr1
      have d4 : wr.cell? ⟨b2, 1, none⟩ = some (Vb) := cell_of_row wr _ 1 _ 30 (0, 0) hr2
      have x4 : wr.drew.cell? ⟨b1, 1, none⟩ = some (Va) := cell_of_row wr.drew _ 1 _ 30 (0, 0) hr1.drew
      have y4 : wr.drew.cell? ⟨b2, 1, none⟩ = some (Vb) := cell_of_row wr.drew _ 1 _ 30 (0, 0) hr2.drew
      clear ha hb ca cb hr1 hr2 hf hka hkb
      have hmx : Tryd.prog.follows .mixedOrders = true := by kernel_rfl
      go_wp2
      go_region
      go_wp2
      exact ⟨⟨i + 1, by omega, by go_num, HB2.out.trans ⟨rfl, rfl, rfl, Nat.le_refl _, fun _ _ => rfl⟩⟩, by simp [intOf]; omega⟩
    · have g1 : decide ((i : Int) < (N : Int)) = false := decide_eq_false (by omega)
      have e0 : ∀ x, binOp .eql 9 (S x) (S x) = pure (.bool true) := fun x => by rw [eql_S]; simp
      have g0 := guard_S 9
      have n1 : (c == c) = true := by simp
      have c0 : wr.cell? ⟨b1, 0, none⟩ = some (.int .i64 c) := cell_of_row wr _ 0 _ 30 (0, 0) hr1
      have c1 : wr.cell? ⟨b1, 1, none⟩ = some (Va) := cell_of_row wr _ 1 _ 30 (0, 0) hr1
      have c2 : wr.cell? ⟨b1, 2, none⟩ = some (S body) := cell_of_row wr _ 2 _ 30 (0, 0) hr1
      have d0 : wr.cell? ⟨b2, 0, none⟩ = some (.int .i64 c) := cell_of_row wr _ 0 _ 30 (0, 0) hr2
      have d1 : wr.cell? ⟨b2, 1, none⟩ = some (Vb) := cell_of_row wr _ 1 _ 30 (0, 0) hr2
      have d2 : wr.cell? ⟨b2, 2, none⟩ = some (S body) := cell_of_row wr _ 2 _ 30 (0, 0) hr2
      clear hr1 hr2
      go_wp2
      go_ret
      exact ⟨rfl, HB.out⟩
end Go.Proofs.YtnaekjmlikhglaaDoor
