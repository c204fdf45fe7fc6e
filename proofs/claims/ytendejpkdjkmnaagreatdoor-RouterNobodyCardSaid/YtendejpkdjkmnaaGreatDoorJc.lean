/- Texts of this proof that several statements share, one behind the other. -/
import Derived.Test.YtendejpkdjkmnaaGreatDoorJb
import Derived.Deep.QuietTactic
import Derived.BigQuiet
import Derived.Test.YtendejpkdjkmnaaGreatDoorJa
import Derived.ProofKit
import Derived.Handed
import Derived.OpenShut
import Derived.SliceStrings
import Derived.Maps.OwnSet
import Derived.Sort.KeysCollected
import Derived.Test.YtendejpkdjkmnaaGreatDoorProg
import Derived.Carry
import Derived.Test.YtendejpkdjkmnaaGreatDoorShelf
/- Routes and requests in memory; what is asked of the package of routers (stage 14). -/
namespace Go.Proofs.YtendejpkdjkmnaaGreatDoor
open Go.RowKit

structure RqU where
  m : Txt
  p : Txt
  q : Txt
  v : Int
  fs : List (Txt × Txt)
  body : Txt
  cl : Bool
def rquC (r : RqU) (V : Value) : Array Value := #[S r.m, S r.p, S r.q, .int .i64 r.v, V, S r.body, .bool r.cl]
def rquV (r : RqU) (V : Value) : Value := .agg (rquC r V)
def rpuC (c : Int) (V : Value) (body : Txt) : Array Value := #[.int .i64 c, V, S body]
def rpuV (c : Int) (V : Value) (body : Txt) : Value := .agg (rpuC c V body)
def rtC (r : Rt) : Array Value := #[S r.m, S r.p, .int .i64 r.kind, S r.text]
def rtV (r : Rt) : Value := .agg (rtC r)
/-- A row of routes, wherever it lies. -/
structure RoA (w : World) (V : Value) (l : List Rt) (b o : Nat) : Prop where
  len : ∀ T w', (Builtin.len_ #[33] T #[V]).run Tryz.prog w' = .ok (.int .i64 (l.length : Int)) w'
  index : ∀ i, i < l.length → ∀ w', (Instr.indexAt 33 V (.int .i64 (i : Int))).run Tryz.prog w' = .ok (.pointer (some ⟨b, o + i * 4, none⟩)) w'
  cell : ∀ i s, l[i]? = some s → ∀ j v, (rtC s)[j]? = some v → w.cell? ⟨b, o + i * 4 + j, none⟩ = some v
  form : ∃ a c, V = .slice a l.length c ∧ l.length ≤ c ∧ (l ≠ [] → a = some ⟨b, o, none⟩)
theorem RoA.below {w w' : World} {V : Value} {l : List Rt} {b o : Nat} (h : RoA w V l b o) (hb : Below w.heap.size w w') : RoA w' V l b o :=
  ⟨h.len, h.index, fun i s hs j v hv => by
    have h1 := h.cell i s hs j v hv
    rw [hb.cell (World.block_lt_of_cell? w _ h1)]; exact h1, h.form⟩
def rtCells (l : List Rt) : List Value := l.flatMap fun s => (rtC s).toList
theorem rtCells_get : ∀ (l : List Rt) (i : Nat) (s : Rt), l[i]? = some s → ∀ j v, (rtC s)[j]? = some v → (rtCells l)[i * 4 + j]? = some v
  | [], i, s, h, _, _, _ => by simp at h
  | t :: l, 0, s, h, j, v, hv => by
    simp only [List.getElem?_cons_zero, Option.some.injEq] at h
    subst h
    unfold rtCells
    have hj : j < 4 := by
      obtain ⟨hl, _⟩ := Array.getElem?_eq_some_iff.1 hv
      exact hl
    rw [List.flatMap_cons, Nat.zero_mul, Nat.zero_add, List.getElem?_append_left (by simpa [rtC] using hj), Array.getElem?_toList]
    exact hv
  | t :: l, i + 1, s, h, j, v, hv => by
    rw [List.getElem?_cons_succ] at h
    have ih := rtCells_get l i s h j v hv
    unfold rtCells at ih ⊢
    rw [List.flatMap_cons, List.getElem?_append_right (by simp [rtC]; omega)]
    rw [show (i + 1) * 4 + j - (rtC t).toList.length = i * 4 + j by simp [rtC]; omega]
    exact ih
theorem lenRt (a : Option Addr) (n c : Nat) (T : TypeId) (w' : World) : (Builtin.len_ #[33] T #[.slice a n c]).run Tryz.prog w' = .ok (.int .i64 (n : Int)) w' := by
  simp [Builtin.len_, run_underlying Tryz.underlying33, Result.andThen, goInt]
theorem indexRt (b o n c i : Nat) (hi : i < n) (w' : World) : (Instr.indexAt 33 (.slice (some ⟨b, o, none⟩) n c) (.int .i64 (i : Int))).run Tryz.prog w' = .ok (.pointer (some ⟨b, o + i * 4, none⟩)) w' :=
  run_index_at (P := Tryz.prog) Tryz.underlying33 (fun w => Tryz.sizeOf40 w) b o n c i hi w'
theorem roa_row {w : World} {g : Nat} {l : List Rt} {n c : Nat} {cs : Array Value} {t : TypeId} (h : Row w g cs t) (hcs : cs = (rtCells l).toArray) (hn : n = l.length) (hc : n ≤ c) : RoA w (.slice (some ⟨g, 0, none⟩) n c) l g 0 := by
  subst hn hcs
  exact ⟨fun T w' => lenRt _ _ _ T w', fun i hi w' => indexRt g 0 _ c i hi w', fun i s hs j v hv => by
    rw [cell_of_row w g _ _ t (0, 0) h, List.getElem?_toArray, Nat.zero_add]
    exact rtCells_get l i s hs j v hv, ⟨_, _, rfl, hc, fun _ => rfl⟩⟩
theorem roa_nil (w : World) : RoA w (.slice none 0 0) [] 0 0 :=
  ⟨fun T w' => lenRt _ _ _ T w', fun i hi => absurd hi (by simp), fun i s hs => (by simp at hs), ⟨_, _, rfl, Nat.le_refl _, fun h => absurd rfl h⟩⟩
theorem fau_nil (w : World) (a : Option Addr) (c : Nat) : FA w (.slice a 0 c) [] 0 0 :=
  ⟨fun T w' => by simp [Builtin.len_, run_underlying Tryz.underlying22, Result.andThen, goInt], fun i hi => absurd hi (by simp), fun i f hf => (by simp at hf), ⟨a, c, rfl⟩⟩
theorem fau_row {w : World} {g : Nat} {fs : List (Txt × Txt)} {n c : Nat} {cs : Array Value} {t : TypeId} (h : Row w g cs t) (hcs : cs = (fcells fs).toArray) (hn : n = fs.length) : FA w (.slice (some ⟨g, 0, none⟩) n c) fs g 0 := by
  subst hn hcs
  refine ⟨fun T w' => by simp [Builtin.len_, run_underlying Tryz.underlying22, Result.andThen, goInt], fun i hi w' => run_index_at (P := Tryz.prog) Tryz.underlying22 (fun w => Tryz.sizeOf43 w) g 0 _ c i hi w', fun i f hf => ?_, ⟨_, _, rfl⟩⟩
  obtain ⟨h1, h2⟩ := fcells_get fs i f hf
  rw [cell_of_row w g _ _ t (0, 0) h, cell_of_row w g _ _ t (0, 0) h, List.getElem?_toArray, List.getElem?_toArray, Nat.zero_add]
  exact ⟨h1, h2⟩
/-- Routes and a request that statements go through. -/
def SmallRo (l : List Rt) : Prop := l.length ≤ 40 ∧ ∀ s ∈ l, s.m.length ≤ 200 ∧ s.p.length ≤ 200 ∧ s.text.length ≤ 5000
structure SmallU (r : RqU) : Prop where
  path : r.p.length ≤ 300
  body : r.body.length ≤ 3000
  meth : r.m.length ≤ 200
/-- Any package of routers; RS says that a block holds the router of some routes. -/
structure RouterI (w0 : World) (RS : World → Nat → List Rt → Prop) : Prop where
  below : ∀ {w w' : World} {g : Nat} {l : List Rt}, RS w g l → Below w.heap.size w w' → RS w' g l
  right : ∀ (r : Rt) (w : World), Below w0.heap.size w0 w → r.m.length ≤ 200 → r.p.length ≤ 200 → r.text.length ≤ 5000 → Calls Tryz.prog 16 #[rtV r] w fun e w' => e = .returned (.bool (rightR r)) ∧ Below w.heap.size w w'
  new : ∀ (l : List Rt) (V : Value) (b o : Nat) (w : World), Below w0.heap.size w0 w → RoA w V l b o → SmallRo l →
    Calls Tryz.prog 12 #[V] w fun e w' => Below w.heap.size w w' ∧
      ((newF l ≠ 0 ∧ e = .returned (.tuple #[.pointer none, .int .i64 (newF l : Int)])) ∨ (newF l = 0 ∧ ∃ g, e = .returned (.tuple #[.pointer (some ⟨g, 0, none⟩), .int .i64 0]) ∧ RS w' g l))
  serve : ∀ (l : List Rt) (g : Nat) (r : RqU) (V : Value) (b o : Nat) (w : World), Below w0.heap.size w0 w → RS w g l → SmallRo l → GoodR l → SmallU r → FA w V r.fs b o →
    Calls Tryz.prog 9 #[.pointer (some ⟨g, 0, none⟩), rquV r V] w fun e w' => Below w.heap.size w w' ∧
      ∃ x Vx bx ox, ServeIs l r.m r.p r.body x ∧ e = .returned (.tuple #[rpuV x.code Vx x.body, .int .i64 x.kind]) ∧ FA w' Vx x.fs bx ox
  served0 : ∀ (r : RqU) (V : Value) (b o : Nat) (w : World), Below w0.heap.size w0 w → SmallU r → FA w V r.fs b o →
    Calls Tryz.prog 9 #[.pointer none, rquV r V] w fun e w' => Below w.heap.size w w' ∧
      ∃ Vx bx ox, e = .returned (.tuple #[rpuV 404 Vx notFoundT, .int .i64 0]) ∧ FA w' Vx [] bx ox
  routes : ∀ (l : List Rt) (g : Nat) (w : World), Below w0.heap.size w0 w → RS w g l → SmallRo l →
    Calls Tryz.prog 11 #[.pointer (some ⟨g, 0, none⟩)] w fun e w' => Below w.heap.size w w' ∧ ∃ V b o, e = .returned V ∧ RoA w' V l b o
  routes0 : ∀ (w : World), Below w0.heap.size w0 w →
    Calls Tryz.prog 11 #[.pointer none] w fun e w' => Below w.heap.size w w' ∧ ∃ V b o, e = .returned V ∧ RoA w' V [] b o
/-- The same by footprints: F names the blocks that a router stands on, made with it (or the row that was handed in). -/
structure RouterF (w0 : World) (RF : World → (Nat → Prop) → Nat → List Rt → Prop) : Prop where
  lt : ∀ {w : World} {F : Nat → Prop} {g : Nat} {l : List Rt}, RF w F g l → ∀ k, F k → k < w.heap.size
  same : ∀ {w w' : World} {F : Nat → Prop} {g : Nat} {l : List Rt}, RF w F g l → w.heap.size ≤ w'.heap.size → (∀ k, F k → w'.heap[k]? = w.heap[k]?) → RF w' F g l
  right : ∀ (r : Rt) (w : World), Below w0.heap.size w0 w → r.m.length ≤ 200 → r.p.length ≤ 200 → r.text.length ≤ 5000 → Calls Tryz.prog 16 #[rtV r] w fun e w' => e = .returned (.bool (rightR r)) ∧ Below w.heap.size w w'
  new : ∀ (l : List Rt) (V : Value) (b o : Nat) (w : World), Below w0.heap.size w0 w → RoA w V l b o → SmallRo l →
    Calls Tryz.prog 12 #[V] w fun e w' => Below w.heap.size w w' ∧
      ((newF l ≠ 0 ∧ e = .returned (.tuple #[.pointer none, .int .i64 (newF l : Int)])) ∨ (newF l = 0 ∧ ∃ g F, e = .returned (.tuple #[.pointer (some ⟨g, 0, none⟩), .int .i64 0]) ∧ RF w' F g l ∧ ∀ k, F k → (w.heap.size ≤ k ∧ k < w'.heap.size) ∨ (l ≠ [] ∧ k = b)))
  serve : ∀ (l : List Rt) (g : Nat) (F : Nat → Prop) (r : RqU) (V : Value) (b o : Nat) (w : World), Below w0.heap.size w0 w → RF w F g l → SmallRo l → GoodR l → SmallU r → FA w V r.fs b o →
    Calls Tryz.prog 9 #[.pointer (some ⟨g, 0, none⟩), rquV r V] w fun e w' => Below w.heap.size w w' ∧
      ∃ x Vx bx ox, ServeIs l r.m r.p r.body x ∧ e = .returned (.tuple #[rpuV x.code Vx x.body, .int .i64 x.kind]) ∧ FA w' Vx x.fs bx ox
  served0 : ∀ (r : RqU) (V : Value) (b o : Nat) (w : World), Below w0.heap.size w0 w → SmallU r → FA w V r.fs b o →
    Calls Tryz.prog 9 #[.pointer none, rquV r V] w fun e w' => Below w.heap.size w w' ∧
      ∃ Vx bx ox, e = .returned (.tuple #[rpuV 404 Vx notFoundT, .int .i64 0]) ∧ FA w' Vx [] bx ox
  routes : ∀ (l : List Rt) (g : Nat) (F : Nat → Prop) (w : World), Below w0.heap.size w0 w → RF w F g l → SmallRo l →
    Calls Tryz.prog 11 #[.pointer (some ⟨g, 0, none⟩)] w fun e w' => Below w.heap.size w w' ∧ ∃ V b o, e = .returned V ∧ RoA w' V l b o
  routes0 : ∀ (w : World), Below w0.heap.size w0 w →
    Calls Tryz.prog 11 #[.pointer none] w fun e w' => Below w.heap.size w w' ∧ ∃ V b o, e = .returned V ∧ RoA w' V [] b o
def rsOf (RF : World → (Nat → Prop) → Nat → List Rt → Prop) (w : World) (g : Nat) (l : List Rt) : Prop := ∃ F, RF w F g l
theorem RouterF.below {w0 w w' : World} {RF : World → (Nat → Prop) → Nat → List Rt → Prop} (C : RouterF w0 RF) {F : Nat → Prop} {g : Nat} {l : List Rt} (h : RF w F g l) (hb : Below w.heap.size w w') : RF w' F g l :=
  C.same h hb.size fun k hk => hb.block k (C.lt h k hk)
theorem RouterF.toI {w0 : World} {RF : World → (Nat → Prop) → Nat → List Rt → Prop} (C : RouterF w0 RF) : RouterI w0 (rsOf RF) where
  below := fun ⟨F, h⟩ hb => ⟨F, C.below h hb⟩
  right := C.right
  new := fun l V b o w hb hA hl => (C.new l V b o w hb hA hl).mono fun _ _ h => ⟨h.1, h.2.imp id fun ⟨h0, g, F, e1, h1, _⟩ => ⟨h0, g, e1, F, h1⟩⟩
  serve := fun l g r V b o w hb ⟨F, h⟩ => C.serve l g F r V b o w hb h
  served0 := C.served0
  routes := fun l g w hb ⟨F, h⟩ => C.routes l g F w hb h
  routes0 := C.routes0
theorem RouterI.up {w W : World} {RS : World → Nat → List Rt → Prop} (C : RouterI w RS) (h : Below w.heap.size w W) : RouterI W RS :=
  ⟨C.below, fun s w' hb => C.right s w' (h.trans (hb.mono h.size)), fun l V b o w' hb => C.new l V b o w' (h.trans (hb.mono h.size)), fun l g r V b o w' hb => C.serve l g r V b o w' (h.trans (hb.mono h.size)),
    fun r V b o w' hb => C.served0 r V b o w' (h.trans (hb.mono h.size)), fun l g w' hb => C.routes l g w' (h.trans (hb.mono h.size)), fun w' hb => C.routes0 w' (h.trans (hb.mono h.size))⟩
end Go.Proofs.YtendejpkdjkmnaaGreatDoor
/- The document's Same, of two replies that are the same. -/
namespace Go.Proofs.YtendejpkdjkmnaaGreatDoor
open Go.RowKit
attribute [local go_sem] store_one S_match S_store

set_option maxRecDepth 100000 in
set_option maxHeartbeats 2000000 in
theorem same14_true (c : Int) (body : Txt) (fs : List (Txt × Txt)) (Va Vb : Value) (ga oa gb ob : Nat) (hlen : fs.length ≤ 1000000) (w : World) (ha : FA w Va fs ga oa) (hb : FA w Vb fs gb ob) :
    Calls Tryz.prog 10 #[.agg (rpuC c Va body), .agg (rpuC c Vb body)] w fun e w' => e = .returned (.bool true) ∧ Below w.heap.size w w' := by
  unfold rpuC
  obtain ⟨b1, hb1⟩ : ∃ b, b = w.heap.size := ⟨_, rfl⟩
  obtain ⟨b2, hb2⟩ : ∃ b, b = w.heap.size + 1 := ⟨_, rfl⟩
  obtain ⟨W2, hW2⟩ : ∃ W, W = (w.alloc (.cells #[.int .i64 c, Va, S body] 29)).alloc (.cells #[.int .i64 c, Vb, S body] 29) := ⟨_, rfl⟩
  have hr1 : Row W2 b1 #[.int .i64 c, Va, S body] 29 := by rw [hW2, hb1]; exact (row_new w _ _).alloc _
  have hr2 : Row W2 b2 #[.int .i64 c, Vb, S body] 29 := by
    have := row_new (w.alloc (.cells #[.int .i64 c, Va, S body] 29)) #[.int .i64 c, Vb, S body] 29
    rw [alloc_size] at this
    rw [hW2, hb2]; exact this
  have hB2 : Below w.heap.size w W2 := by rw [hW2]; exact ((Below.refl _ w).alloc (Nat.le_refl _) _).alloc (by simp) _
  have hla := ha.len 3
  have hlb := hb.len 3
  have HH := Lib.hid (And.intro ha (And.intro hb (And.intro hr1 (And.intro hr2 hB2))))
  obtain ⟨N, hN⟩ : ∃ N, N = fs.length := ⟨_, rfl⟩
  rw [← hN] at hla hlb hlen
  have HN := Lib.hid hN
  clear hN ha hb hB2
  have c4 : W2.cell? ⟨b1, 1, none⟩ = some (Va) := cell_of_row W2 _ 1 _ 29 (0, 0) hr1
  have d4 : W2.cell? ⟨b2, 1, none⟩ = some (Vb) := cell_of_row W2 _ 1 _ 29 (0, 0) hr2
  clear hr1 hr2
  go_enter Tryz.func10, Tryz.ntmps10
  go_wp2_with fail
  all_goals try rw [← hW2, ← hb2, ← hb1]
  clear hW2 hb1 hb2 c4 d4
  go_loopw [5] (fun iv wr => ∃ i : Nat, i ≤ N ∧ iv = .int .i64 (i : Int) ∧ Below W2.heap.size W2 wr) (fun iv _ => N - (intOf iv).toNat)
  case atStart => exact ⟨0, Nat.zero_le _, rfl, Below.refl _ _⟩
  case round =>
    obtain ⟨i, hi, rfl, hB⟩ := hrel
    have hr1 := HH.out.2.2.1.below hB HH.out.2.2.1.lt
    have hr2 := HH.out.2.2.2.1.below hB HH.out.2.2.2.1.lt
    have HB : Hid (Below w.heap.size w wr) := Lib.hid (HH.out.2.2.2.2.trans (hB.mono HH.out.2.2.2.2.size))
    have HB2 := Lib.hid hB
    clear hB
    by_cases hlt : i < N
    · have g1 : decide ((i : Int) < (N : Int)) = true := decide_eq_true (by omega)
      obtain ⟨⟨n, u⟩, hf⟩ : ∃ f, fs[i]? = some f := ⟨fs[i]'(by have := HN.out; omega), List.getElem?_eq_getElem _⟩
      have ha := HH.out.1.below HB.out
      have hb := HH.out.2.1.below HB.out
      have hia := ha.index i (by have := HN.out; omega)
      have hib := hb.index i (by have := HN.out; omega)
      have ca := ha.cell i _ hf
      have cb := hb.cell i _ hf
      obtain ⟨ka, hka⟩ : ∃ k, k = oa + i * 2 := ⟨_, rfl⟩
      obtain ⟨kb, hkb⟩ : ∃ k, k = ob + i * 2 := ⟨_, rfl⟩
      rw [← hka] at hia ca
      rw [← hkb] at hib cb
      have ca0 : wr.cell? ⟨ga, ka, none⟩ = some (S n) := ca.1
      have ca1 : wr.cell? ⟨ga, ka + 1, none⟩ = some (S u) := ca.2
      have cb0 : wr.cell? ⟨gb, kb, none⟩ = some (S n) := cb.1
      have cb1 : wr.cell? ⟨gb, kb + 1, none⟩ = some (S u) := cb.2
      have ea0 : wr.drew.cell? ⟨ga, ka, none⟩ = some (S n) := ca.1
      have ea1 : wr.drew.cell? ⟨ga, ka + 1, none⟩ = some (S u) := ca.2
      have eb0 : wr.drew.cell? ⟨gb, kb, none⟩ = some (S n) := cb.1
      have eb1 : wr.drew.cell? ⟨gb, kb + 1, none⟩ = some (S u) := cb.2
      have hw1 : IntKind.i64.wrap ((i : Int) + 1) = (i : Int) + 1 := by rw [IntKind.wrap_i64]; omega
      have q1 := eq_self n
      have q2 := eq_self u
      have c4 : wr.cell? ⟨b1, 1, none⟩ = some (Va) := cell_of_row wr _ 1 _ 29 (0, 0) hr1
      have d4 : wr.cell? ⟨b2, 1, none⟩ = some (Vb) := cell_of_row wr _ 1 _ 29 (0, 0) hr2
      have x4 : wr.drew.cell? ⟨b1, 1, none⟩ = some (Va) := cell_of_row wr.drew _ 1 _ 29 (0, 0) hr1.drew
      have y4 : wr.drew.cell? ⟨b2, 1, none⟩ = some (Vb) := cell_of_row wr.drew _ 1 _ 29 (0, 0) hr2.drew
      clear ha hb ca cb hr1 hr2 hf hka hkb
      have hmx : Tryz.prog.follows .mixedOrders = true := by kernel_rfl
      go_wp2
      go_region
      go_wp2
      exact ⟨⟨i + 1, by omega, by go_num, HB2.out.trans ⟨rfl, rfl, rfl, Nat.le_refl _, fun _ _ => rfl⟩⟩, by simp [intOf]; omega⟩
    · have g1 : decide ((i : Int) < (N : Int)) = false := decide_eq_false (by omega)
      have e0 : ∀ x, binOp .eql 9 (S x) (S x) = pure (.bool true) := fun x => by rw [eql_S]; simp
      have g0 := guard_S 9
      have n1 : (c == c) = true := by simp
      have c0 : wr.cell? ⟨b1, 0, none⟩ = some (.int .i64 c) := cell_of_row wr _ 0 _ 29 (0, 0) hr1
      have c1 : wr.cell? ⟨b1, 1, none⟩ = some (Va) := cell_of_row wr _ 1 _ 29 (0, 0) hr1
      have c2 : wr.cell? ⟨b1, 2, none⟩ = some (S body) := cell_of_row wr _ 2 _ 29 (0, 0) hr1
      have d0 : wr.cell? ⟨b2, 0, none⟩ = some (.int .i64 c) := cell_of_row wr _ 0 _ 29 (0, 0) hr2
      have d1 : wr.cell? ⟨b2, 1, none⟩ = some (Vb) := cell_of_row wr _ 1 _ 29 (0, 0) hr2
      have d2 : wr.cell? ⟨b2, 2, none⟩ = some (S body) := cell_of_row wr _ 2 _ 29 (0, 0) hr2
      clear hr1 hr2
      go_wp2
      go_ret
      exact ⟨rfl, HB.out⟩
end Go.Proofs.YtendejpkdjkmnaaGreatDoor
/- The law's Great (stage 14) walked. -/
namespace Go.Proofs.YtendejpkdjkmnaaGreatDoor
open Go.RowKit
attribute [local go_sem] store_one S_match S_store

/-- A request in its box, its fields beside it. -/
structure RuAt (w : World) (b1 : Nat) (r : RqU) (V : Value) (b o : Nat) (W : World) : Prop where
  row : Row W b1 (rquC r V) 24
  fa : FA W V r.fs b o
  bel : Below w.heap.size w W
theorem RuAt.below {w W W' : World} {b1 : Nat} {r : RqU} {V : Value} {b o : Nat} (h : RuAt w b1 r V b o W) (hb : Below W.heap.size W W') : RuAt w b1 r V b o W' :=
  ⟨h.row.below hb h.row.lt, h.fa.below hb, h.bel.trans (hb.mono h.bel.size)⟩
theorem ruAt_new {w : World} {r : RqU} {V : Value} {b o : Nat} (hA : FA w V r.fs b o) : RuAt w w.heap.size r V b o (w.alloc (.cells (rquC r V) 24)) :=
  ⟨row_new _ _ _, hA.below ((Below.refl _ _).alloc (Nat.le_refl _) _), (Below.refl _ _).alloc (Nat.le_refl _) _⟩
theorem RuAt.cell {w W : World} {b1 : Nat} {r : RqU} {V : Value} {b o : Nat} (h : RuAt w b1 r V b o W) (j : Nat) (v : Value) (hv : (rquC r V)[j]? = some v) : W.cell? ⟨b1, j, none⟩ = some v := by
  rw [cell_of_row W b1 j _ _ (0, 0) h.row]; exact hv
set_option maxRecDepth 100000 in
set_option maxHeartbeats 2000000 in
theorem great14_any (l : List Rt) (V : Value) (bs os : Nat) (r : RqU) (Vr : Value) (b o : Nat) (w : World) (hS : RoA w V l bs os) (hA : FA w Vr r.fs b o) :
    Calls Tryz.prog 7 #[V, rquV r Vr] w fun e w' => ∃ x, e = .returned (.bool x) ∧ (x = false → SmallRo l ∧ SmallU r) ∧ Below w.heap.size w w' := by
  unfold rquV
  obtain ⟨W1, hW1⟩ : ∃ W, W = w.alloc (.cells (rquC r Vr) 24) := ⟨_, rfl⟩
  have hM : RuAt w w.heap.size r Vr b o W1 := by rw [hW1]; exact ruAt_new hA
  obtain ⟨b1, hb1⟩ : ∃ b, b = w.heap.size := ⟨_, rfl⟩
  have hS1 : RoA W1 V l bs os := by rw [hW1]; exact hS.below ((Below.refl _ _).alloc (Nat.le_refl _) _)
  have HM := Lib.hid (And.intro hM hS1)
  rw [← hb1] at HM
  have hlS := hS.len 3
  have hlP := run_len_S (P := Tryz.prog) Tryz.underlying9 3 r.p
  have hlB := run_len_S (P := Tryz.prog) Tryz.underlying9 3 r.body
  have hlM := run_len_S (P := Tryz.prog) Tryz.underlying9 3 r.m
  obtain ⟨N, hN⟩ : ∃ N, N = l.length := ⟨_, rfl⟩
  obtain ⟨LP, hLP⟩ : ∃ N, N = r.p.length := ⟨_, rfl⟩
  obtain ⟨LB, hLB⟩ : ∃ N, N = r.body.length := ⟨_, rfl⟩
  obtain ⟨LM, hLM⟩ : ∃ N, N = r.m.length := ⟨_, rfl⟩
  rw [← hN] at hlS
  rw [← hLP] at hlP
  rw [← hLB] at hlB
  rw [← hLM] at hlM
  have c0 : W1.cell? ⟨b1, 0, none⟩ = some (S r.m) := HM.out.1.cell 0 _ rfl
  have c1 : W1.cell? ⟨b1, 1, none⟩ = some (S r.p) := HM.out.1.cell 1 _ rfl
  have c5 : W1.cell? ⟨b1, 5, none⟩ = some (S r.body) := HM.out.1.cell 5 _ rfl
  have HQ := Lib.hid (And.intro hN (And.intro hLP (And.intro hLB hLM)))
  rw [hW1] at c0 c1 c5
  unfold rquC at c0 c1 c5 hW1 ⊢
  clear hM hS1 hN hLP hLB hLM hS hA
  obtain ⟨m, p, q, v, fs, body, cl⟩ := r
  dsimp only at *
  have HQ2 : Hid (LP = p.length ∧ LB = body.length ∧ LM = m.length) := Lib.hid ⟨HQ.out.2.1, HQ.out.2.2.1, HQ.out.2.2.2⟩
  have HE : Hid (Below w.heap.size w (w.alloc (.cells #[S m, S p, S q, .int .i64 v, Vr, S body, .bool cl] 24))) := Lib.hid ((Below.refl _ _).alloc (Nat.le_refl _) _)
  by_cases h1 : 40 < N
  · have g1 : decide ((40 : Int) < (N : Int)) = true := decide_eq_true (by omega)
    rw [hb1] at c0 c1 c5
    go_enter Tryz.func7, Tryz.ntmps7
    go_wp2
    go_ret
    exact ⟨true, rfl, fun h => (by cases h), HE.out⟩
  have g1 : decide ((40 : Int) < (N : Int)) = false := decide_eq_false (by omega)
  by_cases h3 : 300 < LP
  · have g3 : decide ((300 : Int) < (LP : Int)) = true := decide_eq_true (by omega)
    rw [hb1] at c0 c1 c5
    go_enter Tryz.func7, Tryz.ntmps7
    go_wp2
    go_ret
    exact ⟨true, rfl, fun h => (by cases h), HE.out⟩
  have g3 : decide ((300 : Int) < (LP : Int)) = false := decide_eq_false (by omega)
  by_cases h4 : 3000 < LB
  · have g4 : decide ((3000 : Int) < (LB : Int)) = true := decide_eq_true (by omega)
    rw [hb1] at c0 c1 c5
    go_enter Tryz.func7, Tryz.ntmps7
    go_wp2
    go_ret
    exact ⟨true, rfl, fun h => (by cases h), HE.out⟩
  have g4 : decide ((3000 : Int) < (LB : Int)) = false := decide_eq_false (by omega)
  by_cases h5 : 200 < LM
  · have g5 : decide ((200 : Int) < (LM : Int)) = true := decide_eq_true (by omega)
    rw [hb1] at c0 c1 c5
    go_enter Tryz.func7, Tryz.ntmps7
    go_wp2
    go_ret
    exact ⟨true, rfl, fun h => (by cases h), HE.out⟩
  have g5 : decide ((200 : Int) < (LM : Int)) = false := decide_eq_false (by omega)
  rw [hb1] at c0 c1 c5
  go_enter Tryz.func7, Tryz.ntmps7
  go_wp2
  rw [← hW1] at c0 c1 c5 HE ⊢
  rw [← hb1] at c0 c1 c5 ⊢
  clear hW1 hb1
  go_loopw [5] (fun iv wr => ∃ i : Nat, i ≤ N ∧ iv = .int .i64 (i : Int) ∧ wr = W1 ∧ Hid (∀ s ∈ l.take i, s.m.length ≤ 200 ∧ s.p.length ≤ 200 ∧ s.text.length ≤ 5000)) (fun iv _ => N - (intOf iv).toNat)
  case atStart => exact ⟨0, Nat.zero_le _, rfl, rfl, Lib.hid (by simp)⟩
  case round =>
    obtain ⟨i, hi, rfl, hwr, HR⟩ := hrel
    subst hwr
    have hw1 : IntKind.i64.wrap ((i : Int) + 1) = (i : Int) + 1 := by rw [IntKind.wrap_i64]; omega
    by_cases hlt : i < N
    · have g6 : decide ((i : Int) < (N : Int)) = true := decide_eq_true (by omega)
      obtain ⟨s, hs⟩ : ∃ s, l[i]? = some s := ⟨l[i]'(by have := HQ.out.1; omega), List.getElem?_eq_getElem _⟩
      have hix := HM.out.2.index i (by have := HQ.out.1; omega)
      obtain ⟨kk, hkk⟩ : ∃ k, k = os + i * 4 := ⟨_, rfl⟩
      have d0 : wr.cell? ⟨bs, kk, none⟩ = some (S s.m) := by rw [hkk]; exact HM.out.2.cell i s hs 0 _ rfl
      have d1 : wr.cell? ⟨bs, kk + 1, none⟩ = some (S s.p) := by rw [hkk]; exact HM.out.2.cell i s hs 1 _ rfl
      have d3 : wr.cell? ⟨bs, kk + 3, none⟩ = some (S s.text) := by rw [hkk]; exact HM.out.2.cell i s hs 3 _ rfl
      rw [← hkk] at hix
      have hl0 := run_len_S (P := Tryz.prog) Tryz.underlying9 3 s.m
      have hl1 := run_len_S (P := Tryz.prog) Tryz.underlying9 3 s.p
      have hl3 := run_len_S (P := Tryz.prog) Tryz.underlying9 3 s.text
      obtain ⟨n0, hn0⟩ : ∃ n, n = s.m.length := ⟨_, rfl⟩
      obtain ⟨n1, hn1⟩ : ∃ n, n = s.p.length := ⟨_, rfl⟩
      obtain ⟨n3, hn3⟩ : ∃ n, n = s.text.length := ⟨_, rfl⟩
      rw [← hn0] at hl0
      rw [← hn1] at hl1
      rw [← hn3] at hl3
      by_cases k0 : 200 < n0
      · have g7 : decide ((200 : Int) < (n0 : Int)) = true := decide_eq_true (by omega)
        clear hs hkk hn0 hn1 hn3
        go_wp2
        go_ret
        exact ⟨true, rfl, fun h => (by cases h), HE.out⟩
      have g7 : decide ((200 : Int) < (n0 : Int)) = false := decide_eq_false (by omega)
      by_cases k1 : 200 < n1
      · have g8 : decide ((200 : Int) < (n1 : Int)) = true := decide_eq_true (by omega)
        clear hs hkk hn0 hn1 hn3
        go_wp2
        go_ret
        exact ⟨true, rfl, fun h => (by cases h), HE.out⟩
      have g8 : decide ((200 : Int) < (n1 : Int)) = false := decide_eq_false (by omega)
      by_cases k3 : 5000 < n3
      · have g9 : decide ((5000 : Int) < (n3 : Int)) = true := decide_eq_true (by omega)
        clear hs hkk hn0 hn1 hn3
        go_wp2
        go_ret
        exact ⟨true, rfl, fun h => (by cases h), HE.out⟩
      have g9 : decide ((5000 : Int) < (n3 : Int)) = false := decide_eq_false (by omega)
      have HX : Hid (∀ s ∈ l.take (i + 1), s.m.length ≤ 200 ∧ s.p.length ≤ 200 ∧ s.text.length ≤ 5000) := Lib.hid (by
        intro t ht
        rw [List.take_add_one, hs] at ht
        rcases List.mem_append.1 ht with ht | ht
        · exact HR.out t ht
        · have : t = s := by simpa using ht
          rw [this]; omega)
      clear hs hkk hn0 hn1 hn3
      go_wp2
      exact ⟨⟨i + 1, by omega, by go_num, by trivial, HX⟩, by simp [intOf]; omega⟩
    · have g6 : decide ((i : Int) < (N : Int)) = false := decide_eq_false (by omega)
      have HS : Hid (SmallRo l) := Lib.hid ⟨by have := HQ.out.1; omega, by
        have h := HR.out
        rwa [show i = l.length by have := HQ.out.1; omega, List.take_length] at h⟩
      have HF : Hid (SmallU ⟨m, p, q, v, fs, body, cl⟩) := Lib.hid ⟨by have := HQ2.out.1; show p.length ≤ 300; omega, by have := HQ2.out.2.1; show body.length ≤ 3000; omega, by have := HQ2.out.2.2; show m.length ≤ 200; omega⟩
      clear hw1 HR
      go_wp2
      go_ret
      exact ⟨false, rfl, fun _ => ⟨HS.out, HF.out⟩, HE.out⟩
end Go.Proofs.YtendejpkdjkmnaaGreatDoor
/- What a router answers, reckoned out: a check that gives ServeIs (stage 14); the chapter's routes. -/
namespace Go.Proofs.YtendejpkdjkmnaaGreatDoor
open Go.RowKit

def toldB (l : List Rt) (p m : Txt) : Bool := (l.any fun r => r.p == p && r.m == m) || (m == headT && l.any fun r => r.p == p && r.m == getT)
theorem toldB_iff (l : List Rt) (p m : Txt) : toldB l p m = true ↔ toldR l p m := by
  unfold toldB toldR
  rw [Bool.or_eq_true, Bool.and_eq_true, List.any_eq_true, List.any_eq_true, beq_iff_eq]
  constructor
  · rintro (⟨r, hr, h⟩ | ⟨h1, r, hr, h⟩)
    · rw [Bool.and_eq_true, beq_iff_eq, beq_iff_eq] at h
      exact .inl ⟨r, hr, h⟩
    · rw [Bool.and_eq_true, beq_iff_eq, beq_iff_eq] at h
      exact .inr ⟨h1, r, hr, h⟩
  · rintro (⟨r, hr, h1, h2⟩ | ⟨h0, r, hr, h1, h2⟩)
    · exact .inl ⟨r, hr, by rw [h1, h2, beq_self_eq_true, beq_self_eq_true]; rfl⟩
    · exact .inr ⟨h0, r, hr, by rw [h1, h2, beq_self_eq_true, beq_self_eq_true]; rfl⟩
def risB : List Txt → Bool
  | [] => true
  | a :: l => (l.all fun b => ltT a b) && risB l
theorem risB_rising : ∀ {l : List Txt}, risB l = true → Rising l
  | [], _ => List.Pairwise.nil
  | a :: l, h => by
    unfold risB at h
    rw [Bool.and_eq_true, List.all_eq_true] at h
    exact List.Pairwise.cons h.1 (risB_rising h.2)
def allB (l : List Rt) (p : Txt) (ms : List Txt) : Bool := risB ms && ((ms.all fun m => toldB l p m) && (l.all fun r => r.p != p || (ms.contains r.m && (r.m != getT || ms.contains headT))))
theorem allB_allow {l : List Rt} {p : Txt} {ms : List Txt} (h : allB l p ms = true) : AllowIs l p (joinA ms) := by
  unfold allB at h
  rw [Bool.and_eq_true, Bool.and_eq_true, List.all_eq_true, List.all_eq_true] at h
  obtain ⟨h1, h2, h3⟩ := h
  refine ⟨ms, risB_rising h1, fun m => ⟨fun hm => (toldB_iff l p m).1 (h2 m hm), fun hm => ?_⟩, rfl⟩
  rcases hm with ⟨r, hr, e1, e2⟩ | ⟨e0, r, hr, e1, e2⟩
  · have := h3 r hr
    rw [Bool.or_eq_true, Bool.and_eq_true] at this
    rcases this with h | h
    · rw [bne_iff_ne] at h; exact absurd e1 h
    · rw [← e2]; exact List.contains_iff_mem.1 h.1
  · have := h3 r hr
    rw [Bool.or_eq_true, Bool.and_eq_true, Bool.or_eq_true] at this
    rcases this with h | ⟨_, h | h⟩
    · rw [bne_iff_ne] at h; exact absurd e1 h
    · rw [bne_iff_ne] at h; exact absurd e2 h
    · rw [e0]; exact List.contains_iff_mem.1 h
def bestU (l : List Rt) (segs : List Txt) : Option Txt → Bool
  | none => l.all fun r => !fitsF (segD r.p) segs
  | some p => (l.any fun r => r.p == p) && (fitsF (segD p) segs && l.all fun r => !fitsF (segD r.p) segs || (r.p == p || betterF (segD p) (segD r.p)))
theorem bestU_best {l : List Rt} {segs : List Txt} : ∀ {o : Option Txt}, bestU l segs o = true → BestP l segs o
  | none, h => fun r hr => by
    have := List.all_eq_true.1 h r hr
    simpa using this
  | some p, h => by
    unfold bestU at h
    rw [Bool.and_eq_true, Bool.and_eq_true, List.any_eq_true, List.all_eq_true] at h
    obtain ⟨⟨r, hr, e⟩, h2, h3⟩ := h
    refine ⟨⟨r, hr, beq_iff_eq.1 e⟩, h2, fun q hq hf => ?_⟩
    have := h3 q hq
    rw [hf, Bool.not_true, Bool.false_or, Bool.or_eq_true, beq_iff_eq] at this
    exact this
/-- What is answered, if the best pattern is o and its methods are ms. -/
def ansC (l : List Rt) (rm body : Txt) (segs : List Txt) (ms : List Txt) : Option Txt → Rp
  | none => ⟨404, [], notFoundT, 0⟩
  | some p => match routeR l p rm with
    | some r => answerR r (paramsF (segD p) segs) body
    | none => ⟨405, [(allowT, joinA ms)], noSuchT, 0⟩
def okC (l : List Rt) (segs : List Txt) (ms : List Txt) : Option Txt → Bool
  | none => bestU l segs none
  | some p => bestU l segs (some p) && allB l p ms
theorem serve_c {l : List Rt} {rm path body : Txt} {segs : List Txt} {ms : List Txt} {o : Option Txt} (hs : segsOf path = some segs) (hok : okC l segs ms o = true) : ServeIs l rm path body (ansC l rm body segs ms o) := by
  unfold ServeIs
  rw [hs]
  dsimp only
  cases o with
  | none => exact ⟨none, bestU_best hok, rfl⟩
  | some p =>
    unfold okC at hok
    rw [Bool.and_eq_true] at hok
    refine ⟨some p, bestU_best hok.1, ?_⟩
    rw [serveAt_some]
    unfold ansC
    dsimp only
    cases hr : routeR l p rm with
    | some r => rfl
    | none => exact ⟨_, allB_allow hok.2, rfl⟩
theorem serve_bad {l : List Rt} {rm path body : Txt} (hs : segsOf path = none) : ServeIs l rm path body ⟨400, [], badPathT, 0⟩ := by
  unfold ServeIs; rw [hs]
/-- The chapter's routes. -/
def wkL : List Rt := [⟨getT, [47], 1, [104, 111, 109, 101]⟩, ⟨getT, [47, 97, 47, 58, 120], 3, []⟩, ⟨[80, 79, 83, 84], [47, 97, 47, 58, 120], 2, []⟩, ⟨getT, [47, 119, 115], 4, []⟩, ⟨getT, [47, 97, 47, 98], 1, [98]⟩]
theorem wkL_new : newF wkL = 0 := by decide +kernel
theorem wkL_good : GoodR wkL := (new_good wkL).1 wkL_new
theorem wk_az (x : Rp) (h : ServeIs wkL getT [47, 97, 47, 122] [] x) : x = ⟨200, [], [120, 61, 122, 10], 3⟩ := by
  rw [serve_one h (serve_c (segs := [[97], [122]]) (ms := [getT, headT, [80, 79, 83, 84]]) (o := some [47, 97, 47, 58, 120]) (by decide +kernel) (by decide +kernel))]
  kernel_rfl
theorem wk_ab (x : Rp) (h : ServeIs wkL [80, 79, 83, 84] [47, 97, 47, 98] [] x) : x = ⟨405, [(allowT, [71, 69, 84, 44, 32, 72, 69, 65, 68])], noSuchT, 0⟩ := by
  rw [serve_one h (serve_c (segs := [[97], [98]]) (ms := [getT, headT]) (o := some [47, 97, 47, 98]) (by decide +kernel) (by decide +kernel))]
  kernel_rfl
end Go.Proofs.YtendejpkdjkmnaaGreatDoor
/- The law's routes, wakes (stage 14) and RouterNobody walked. -/
namespace Go.Proofs.YtendejpkdjkmnaaGreatDoor
open Go.RowKit
attribute [local go_sem] store_one S_match S_store

set_option maxRecDepth 100000 in
set_option maxHeartbeats 400000 in
theorem routes14_any (w : World) : Calls Tryz.prog 13 #[] w fun e w' => ∃ b, e = .returned (.slice (some ⟨b, 0, none⟩) 5 5) ∧ RoA w' (.slice (some ⟨b, 0, none⟩) 5 5) wkL b 0 ∧ Below w.heap.size w w' := by
  go_enter Tryz.func13, Tryz.ntmps13
  go_wp2
  go_ret
  exact ⟨w.heap.size, rfl, roa_row (l := wkL) (row_new w _ _) rfl rfl (Nat.le_refl _), (Below.refl _ _).alloc (Nat.le_refl _) _⟩
theorem wkL_small : SmallRo wkL := ⟨by decide, by decide⟩
set_option maxRecDepth 100000 in
set_option maxHeartbeats 1000000 in
theorem wakes14_any {w : World} {RS : World → Nat → List Rt → Prop} (C : RouterI w RS) : Calls Tryz.prog 8 #[] w fun e w' => e = .returned (.bool true) ∧ Below w.heap.size w w' := by
  have HC := Lib.hid C
  clear C
  have HR := Lib.hid (routes14_any w)
  go_enter Tryz.func8, Tryz.ntmps8
  go_wp2_with fail
  refine HR.out.mono ?_
  rintro e W1 ⟨b1, rfl, hA1, hB1⟩
  have HN := Lib.hid (HC.out.new wkL _ b1 0 W1 hB1 hA1 wkL_small)
  have H1 := Lib.hid hB1
  clear hB1 hA1 HR
  go_wp2_with fail
  refine HN.out.mono ?_
  rintro e W2 ⟨hB2, h2⟩
  rcases h2 with ⟨h2, _⟩ | ⟨_, g, rfl, hRS⟩
  · exact absurd wkL_new h2
  have hB02 := H1.out.trans (hB2.mono H1.out.size)
  have H2 := Lib.hid (And.intro hB02 hRS)
  have hs := HC.out.serve wkL g ⟨getT, [47, 97, 47, 122], [], 0, [], [], false⟩ (.slice none 0 0) 0 0 W2 hB02 hRS wkL_small wkL_good ⟨by simp, by simp, by simp [getT]⟩ (fau_nil _ _ _)
  unfold rquV rquC at hs
  dsimp only at hs
  have HS := Lib.hid hs
  clear hB2 hB02 hRS hs HN
  go_wp2_with fail
  refine HS.out.mono ?_
  rintro e W3 ⟨hB3, x, Vx, bx, ox, hx, rfl, hF⟩
  obtain rfl := wk_az x hx
  obtain ⟨a3, c3, hv3⟩ := hF.form
  subst hv3
  obtain ⟨b4, hb4⟩ : ∃ b, b = W3.heap.size := ⟨_, rfl⟩
  obtain ⟨W4, hW4⟩ : ∃ W, W = W3.alloc (.cells (rpuC 200 (.slice a3 0 c3) [120, 61, 122, 10]) 29) := ⟨_, rfl⟩
  have hB4 : Below W3.heap.size W3 W4 := by rw [hW4]; exact (Below.refl _ _).alloc (Nat.le_refl _) _
  have hB03 := H2.out.1.trans (hB3.mono H2.out.1.size)
  have hB04 := hB03.trans (hB4.mono hB03.size)
  have hRS4 := HC.out.below (HC.out.below H2.out.2 hB3) hB4
  have hs := HC.out.serve wkL g ⟨[80, 79, 83, 84], [47, 97, 47, 98], [], 0, [], [], false⟩ (.slice none 0 0) 0 0 W4 hB04 hRS4 wkL_small wkL_good ⟨by simp, by simp, by simp⟩ (fau_nil _ _ _)
  unfold rquV rquC at hs
  dsimp only at hs
  have HS4 := Lib.hid hs
  have hR4 : Row W4 b4 (rpuC 200 (.slice a3 0 c3) [120, 61, 122, 10]) 29 := by rw [hW4, hb4]; exact row_new _ _ _
  have H4 := Lib.hid (And.intro hR4 (And.intro hB04 hRS4))
  have HW4 := Lib.hid hW4
  rw [hW4] at HS4
  have HB4 := Lib.hid hb4
  clear hx HS hB3 H2 hF hB4 hB03 hB04 hRS4 hs hR4 hW4 hb4
  unfold rpuV rpuC
  dsimp only
  unfold rpuC at HS4
  go_wp2_with fail
  refine HS4.out.mono ?_
  rintro e W5 ⟨hB5, x, Vx, bx, ox, hx, rfl, hF⟩
  obtain rfl := wk_ab x hx
  unfold rpuC at HW4
  rw [← HW4.out] at hB5
  rw [← HB4.out]
  obtain ⟨a5, c5, hv5⟩ := hF.form
  subst hv5
  obtain ⟨b6, hb6⟩ : ∃ b, b = W5.heap.size := ⟨_, rfl⟩
  obtain ⟨W6, hW6⟩ : ∃ W, W = W5.alloc (.cells (rpuC 405 (.slice a5 1 c5) noSuchT) 29) := ⟨_, rfl⟩
  have hB6 : Below W5.heap.size W5 W6 := by rw [hW6]; exact (Below.refl _ _).alloc (Nat.le_refl _) _
  have hB46 := hB5.trans (hB6.mono hB5.size)
  have hR6 : Row W6 b6 (rpuC 405 (.slice a5 1 c5) noSuchT) 29 := by rw [hW6, hb6]; exact row_new _ _ _
  have hR46 := H4.out.1.below hB46 H4.out.1.lt
  have hF6 := hF.below hB6
  have hB06 := H4.out.2.1.trans (hB46.mono H4.out.2.1.size)
  have hRS6 := HC.out.below H4.out.2.2 hB46
  have hix : ∀ w', (Instr.indexAt 22 (.slice a5 1 c5) (.int .i64 0)).run Tryz.prog w' = .ok (.pointer (some ⟨bx, ox, none⟩)) w' := fun w' => by
    have h := hF6.index 0 (by simp) w'
    rw [Nat.zero_mul, Nat.add_zero] at h
    exact h
  have hfc : W6.cell? ⟨bx, ox + 1, none⟩ = some (.string ⟨#[71, 69, 84, 44, 32, 72, 69, 65, 68]⟩) := by
    have h := (hF6.cell 0 _ rfl).2
    rw [Nat.zero_mul, Nat.add_zero] at h
    exact h
  have H6 := Lib.hid (And.intro hB06 hRS6)
  have c40 : W6.cell? ⟨b4, 0, none⟩ = some (.int .i64 200) := cell_of_row W6 b4 0 _ _ (0, 0) hR46
  have c42 : W6.cell? ⟨b4, 2, none⟩ = some (.string ⟨#[120, 61, 122, 10]⟩) := cell_of_row W6 b4 2 _ _ (0, 0) hR46
  have c60 : W6.cell? ⟨b6, 0, none⟩ = some (.int .i64 405) := cell_of_row W6 b6 0 _ _ (0, 0) hR6
  have c61 : W6.cell? ⟨b6, 1, none⟩ = some (.slice a5 1 c5) := cell_of_row W6 b6 1 _ _ (0, 0) hR6
  have HR6 := Lib.hid (routes14_any W6)
  clear hx HS4 hB5 hF hB6 hB46 hR6 hR46 hF6 hB06 hRS6 H4 HW4 HB4
  unfold rpuV
  dsimp only
  unfold rpuC at hW6 ⊢
  rw [hW6] at c40 c42 c60 c61 HR6 hfc
  rw [hb6] at c60 c61
  go_wp2_with fail
  refine HR6.out.mono ?_
  rintro e W7 ⟨b7, rfl, hA7, hB7⟩
  rw [← hW6] at hB7
  have hB07 := H6.out.1.trans (hB7.mono H6.out.1.size)
  have hRS7 := HC.out.below H6.out.2 hB7
  have hix7 : ∀ w', (Instr.indexAt 33 (.slice (some ⟨b7, 0, none⟩) 5 5) (.int .i64 0)).run Tryz.prog w' = .ok (.pointer (some ⟨b7, 0, none⟩)) w' := fun w' => hA7.index 0 (by decide) w'
  have d0 : W7.cell? ⟨b7, 0, none⟩ = some (.string ⟨#[71, 69, 84]⟩) := hA7.cell 0 _ rfl 0 _ rfl
  have d1 : W7.cell? ⟨b7, 1, none⟩ = some (.string ⟨#[47]⟩) := hA7.cell 0 _ rfl 1 _ rfl
  have d2 : W7.cell? ⟨b7, 2, none⟩ = some (.int .i64 1) := hA7.cell 0 _ rfl 2 _ rfl
  have d3 : W7.cell? ⟨b7, 3, none⟩ = some (.string ⟨#[104, 111, 109, 101]⟩) := hA7.cell 0 _ rfl 3 _ rfl
  have hrt := HC.out.right ⟨getT, [47], 1, [104, 111, 109, 101]⟩ W7 hB07 (by decide) (by decide) (by decide)
  rw [show rightR ⟨getT, [47], 1, [104, 111, 109, 101]⟩ = true by decide +kernel] at hrt
  unfold rtV rtC at hrt
  dsimp only at hrt
  have HRT := Lib.hid hrt
  have H7 := Lib.hid (And.intro hB07 hRS7)
  clear hrt hB07 hRS7 hB7 hA7 HR6 c40 c42 c60 c61 hix hfc H6
  go_wp2_with fail
  refine HRT.out.mono ?_
  rintro e W8 ⟨rfl, hB8⟩
  have hB08 := H7.out.1.trans (hB8.mono H7.out.1.size)
  have HRO := Lib.hid (HC.out.routes wkL g W8 hB08 (HC.out.below H7.out.2 hB8) wkL_small)
  have H8 := Lib.hid hB08
  clear hB8 hB08 d0 d1 d2 d3 hix7 HRT
  go_wp2_with fail
  refine HRO.out.mono ?_
  rintro e W9 ⟨hB9, V9, b9, o9, rfl, hA9⟩
  have HE := Lib.hid (H8.out.trans (hB9.mono H8.out.size))
  have hl9 : ∀ T w', (Builtin.len_ #[33] T #[V9]).run Tryz.prog w' = .ok (.int .i64 5) w' := hA9.len
  clear hB9 hA9 HRO
  go_wp2
  go_ret
  exact ⟨rfl, HE.out⟩
set_option maxRecDepth 100000 in
set_option maxHeartbeats 1000000 in
theorem nobody14_any {w : World} {RS : World → Nat → List Rt → Prop} (C : RouterI w RS) (r : RqU) (V : Value) (b o : Nat) (hA : FA w V r.fs b o) :
    Calls Tryz.prog 3 #[rquV r V] w fun e w' => e = .returned (.bool true) ∧ Below w.heap.size w w' := by
  have HC := Lib.hid C
  clear C
  unfold rquV
  obtain ⟨b1, hb1⟩ : ∃ b, b = w.heap.size := ⟨_, rfl⟩
  obtain ⟨W1, hW1⟩ : ∃ W, W = w.alloc (.cells (rquC r V) 24) := ⟨_, rfl⟩
  have hM : RuAt w b1 r V b o W1 := by rw [hW1, hb1]; exact ruAt_new hA
  have hg := great14_any [] (.slice none 0 0) 0 0 r V b o W1 (roa_nil W1) hM.fa
  have hcell : ∀ W, Below W1.heap.size W1 W → W.cell? ⟨b1, 0, none⟩ = some (S r.m) ∧ W.cell? ⟨b1, 1, none⟩ = some (S r.p) ∧ W.cell? ⟨b1, 2, none⟩ = some (S r.q) ∧ W.cell? ⟨b1, 3, none⟩ = some (.int .i64 r.v) ∧ W.cell? ⟨b1, 4, none⟩ = some V ∧ W.cell? ⟨b1, 5, none⟩ = some (S r.body) ∧ W.cell? ⟨b1, 6, none⟩ = some (.bool r.cl) := fun W hB => by
    have h := hM.below hB
    exact ⟨h.cell 0 _ rfl, h.cell 1 _ rfl, h.cell 2 _ rfl, h.cell 3 _ rfl, h.cell 4 _ rfl, h.cell 5 _ rfl, h.cell 6 _ rfl⟩
  have HCE := Lib.hid hcell
  obtain ⟨c0, c1, c2, c3, c4, c5, c6⟩ := hcell W1 (Below.refl _ _)
  unfold rquV rquC at hg
  have HG := Lib.hid hg
  have HM := Lib.hid hM
  have HW1 := Lib.hid (And.intro hW1 hb1)
  rw [hW1] at HG c0 c1 c2 c3 c4 c5 c6
  rw [hb1] at c0 c1 c2 c3 c4 c5 c6
  unfold rquC at HG c0 c1 c2 c3 c4 c5 c6 ⊢
  clear hM hg hcell hA hW1 hb1
  go_enter Tryz.func3, Tryz.ntmps3
  go_wp2_with fail
  refine HG.out.mono ?_
  rintro e W2 ⟨x, rfl, hx, hB2⟩
  have hWe := HW1.out.1
  unfold rquC at hWe
  rw [← hWe] at hB2
  clear hWe c0 c1 c2 c3 c4 c5 c6 HG
  rw [← HW1.out.2]
  have hM2 := HM.out.below hB2
  obtain ⟨c0, c1, c2, c3, c4, c5, c6⟩ := HCE.out W2 hB2
  have H2 := Lib.hid hM2
  clear hB2 hM2 HM
  cases x with
  | true =>
    have HW := Lib.hid (wakes14_any (HC.out.up H2.out.bel))
    clear hx c0 c1 c2 c3 c4 c5 c6
    go_wp2_with fail
    refine HW.out.mono ?_
    rintro e W3 ⟨rfl, hB⟩
    have HE := Lib.hid (H2.out.bel.trans (hB.mono H2.out.bel.size))
    clear hB
    go_wp2
    go_ret
    exact ⟨rfl, HE.out⟩
  | false =>
    have hs := HC.out.served0 r V b o W2 H2.out.bel (hx rfl).2 H2.out.fa
    unfold rquV rquC at hs
    have HS := Lib.hid hs
    clear hx hs
    go_wp2_with fail
    refine HS.out.mono ?_
    rintro e W3 ⟨hB3, Vx, bx, ox, rfl, hF⟩
    obtain ⟨a3, k3, hv3⟩ := hF.form
    subst hv3
    have hB03 := H2.out.bel.trans (hB3.mono H2.out.bel.size)
    obtain ⟨b4, hb4⟩ : ∃ b, b = W3.heap.size := ⟨_, rfl⟩
    obtain ⟨W4, hW4⟩ : ∃ W, W = W3.alloc (.cells (rpuC 404 (.slice a3 0 k3) notFoundT) 29) := ⟨_, rfl⟩
    have hB4 : Below W3.heap.size W3 W4 := by rw [hW4]; exact (Below.refl _ _).alloc (Nat.le_refl _) _
    have hR4 : Row W4 b4 (rpuC 404 (.slice a3 0 k3) notFoundT) 29 := by rw [hW4, hb4]; exact row_new _ _ _
    have hB04 := hB03.trans (hB4.mono hB03.size)
    have hsm := same14_true 404 notFoundT [] (.slice a3 0 k3) (.slice none 0 0) bx ox 0 0 (by simp) W4 (hF.below hB4) (fau_nil _ _ _)
    have d0 : W4.cell? ⟨b4, 0, none⟩ = some (.int .i64 404) := cell_of_row W4 b4 0 _ _ (0, 0) hR4
    have d1 : W4.cell? ⟨b4, 1, none⟩ = some (.slice a3 0 k3) := cell_of_row W4 b4 1 _ _ (0, 0) hR4
    have d2 : W4.cell? ⟨b4, 2, none⟩ = some (.string ⟨#[110, 111, 116, 32, 102, 111, 117, 110, 100]⟩) := cell_of_row W4 b4 2 _ _ (0, 0) hR4
    have HSM := Lib.hid hsm
    have H4 := Lib.hid hB04
    have HW4 := Lib.hid hW4
    rw [hW4] at HSM d0 d1 d2
    rw [hb4] at d0 d1 d2
    clear hB3 hF hB03 hB4 hR4 hB04 hsm hW4 hb4 HS c0 c1 c2 c3 c4 c5 c6
    unfold rpuV
    unfold rpuC at HSM d0 d1 d2 ⊢
    go_wp2_with fail
    refine HSM.out.mono ?_
    rintro e W5 ⟨rfl, hB5⟩
    have hWe := HW4.out
    unfold rpuC at hWe
    rw [← hWe] at hB5
    clear hWe d0 d1 d2 HSM
    have hB05 := H4.out.trans (hB5.mono H4.out.size)
    have HRO := Lib.hid (HC.out.routes0 W5 hB05)
    have H5 := Lib.hid hB05
    clear hB5 hB05
    go_wp2_with fail
    refine HRO.out.mono ?_
    rintro e W6 ⟨hB6, V6, b6, o6, rfl, hA6⟩
    have hl6 : ∀ T w', (Builtin.len_ #[33] T #[V6]).run Tryz.prog w' = .ok (.int .i64 0) w' := hA6.len
    have hB06 := H5.out.trans (hB6.mono H5.out.size)
    have HWK := Lib.hid (wakes14_any (HC.out.up hB06))
    have H6 := Lib.hid hB06
    clear hB6 hA6 hB06 HRO
    go_wp2_with fail
    refine HWK.out.mono ?_
    rintro e W7 ⟨rfl, hB7⟩
    have HE := Lib.hid (H6.out.trans (hB7.mono H6.out.size))
    clear hB7
    go_wp2
    go_ret
    exact ⟨rfl, HE.out⟩
end Go.Proofs.YtendejpkdjkmnaaGreatDoor
/- Slices that came in, opened: of numbers, of texts. Over any program. -/
namespace Go.Proofs.YtendejpkdjkmnaaGreatDoor
open Go.ChangeShapes Go.WideShapes Go.ChangeAt Go.RowKit
open Go.WideMaps Go.WideElems
variable {P : Program}

theorem S_of (s : ByteArray) : Value.string s = S s.data.toList := by rw [S]
theorem B_of (n : Int) (h0 : 0 ≤ n) (h1 : n ≤ 255) : Value.int .u8 n = B (UInt8.ofNat n.toNat) := by
  have e : ((UInt8.ofNat n.toNat).toNat : Int) = n := by rw [UInt8.toNat_ofNat']; omega
  rw [B, e]

theorem came_nums {t e : TypeId} {k : IntKind} (hu : P.underlying t = some (.slice e)) (he : P.underlying e = some (.int k)) (hcs : P.cellsOf e = 1) (hz : ∀ w, (sizeOf e).run P w = .ok 1 w)
    {H : Type} {enc : TypeId × Value → H} {W : World} {a0 : Option Addr} {len cap fuel : Nat} {x : DataW H × List MemPlace}
    (hf : DataW.trod enc P W 0 (fun _ => true) true fuel t [.slice a0 len cap] = some x) :
    ∃ (ad : Nat → Addr) (z : Nat → Int), Came P W t (.slice a0 len cap) len ad (fun i => .int k (z i)) ∧ ∀ i, i < len → (Lit.int k (z i)).wf = true := by
  have hlen : ∀ T w', (Builtin.len_ #[t] T #[.slice a0 len cap]).run P w' = .ok (.int .i64 (len : Int)) w' := fun T w' => by
    simp [Builtin.len_, run_underlying hu, Result.andThen, goInt]
  rcases open_ints hu he hcs hf with ⟨hcs, _⟩ | ⟨a, len', cap', zs, hcs, _, hl, _, hzs, _, hcell, hwz⟩
  · simp only [List.cons.injEq, Value.slice.injEq, and_true] at hcs
    obtain ⟨rfl, rfl, rfl⟩ := hcs
    exact ⟨fun _ => ⟨0, 0, none⟩, fun _ => 0, ⟨hlen, fun i h => absurd h (by omega), fun i h => absurd h (by omega)⟩, fun i h => absurd h (by omega)⟩
  · simp only [List.cons.injEq, Value.slice.injEq, and_true] at hcs
    obtain ⟨rfl, rfl, rfl⟩ := hcs
    simp only [if_true] at hzs
    refine ⟨fun i => a.add i, fun i => zs.getD i 0, ⟨hlen, fun i hi w' => ?_, fun i hi => hcell i (by omega)⟩, fun i hi => ?_⟩
    · have h1 : (0 : Int) ≤ (i : Int) ∧ (i : Int) < (len : Int) := by omega
      simp [Instr.indexAt, run_underlying hu, asIntOf, hz, h1, go_sem]
      intro hge; omega
    · refine hwz _ ?_
      show zs.getD i 0 ∈ zs
      rw [List.getD_eq_getElem?_getD, List.getElem?_eq_getElem (by omega)]
      exact List.getElem_mem _
theorem came_texts {t e : TypeId} (hu : P.underlying t = some (.slice e)) (he : P.underlying e = some .string) (hcs : P.cellsOf e = 1) (hz : ∀ w, (sizeOf e).run P w = .ok 1 w)
    {H : Type} {enc : TypeId × Value → H} {W : World} {a0 : Option Addr} {len cap fuel : Nat} {x : DataW H × List MemPlace}
    (hf : DataW.trod enc P W 0 (fun _ => true) true fuel t [.slice a0 len cap] = some x) :
    ∃ (ad : Nat → Addr) (z : Nat → List UInt8), Came P W t (.slice a0 len cap) len ad (fun i => S (z i)) := by
  have hlen : ∀ T w', (Builtin.len_ #[t] T #[.slice a0 len cap]).run P w' = .ok (.int .i64 (len : Int)) w' := fun T w' => by
    simp [Builtin.len_, run_underlying hu, Result.andThen, goInt]
  rcases open_strings hu he hcs hf with ⟨hcs, _⟩ | ⟨a, len', cap', ss, hcs, _, hl, _, hss, _, hcell, _⟩
  · simp only [List.cons.injEq, Value.slice.injEq, and_true] at hcs
    obtain ⟨rfl, rfl, rfl⟩ := hcs
    exact ⟨fun _ => ⟨0, 0, none⟩, fun _ => [], ⟨hlen, fun i h => absurd h (by omega), fun i h => absurd h (by omega)⟩⟩
  · simp only [List.cons.injEq, Value.slice.injEq, and_true] at hcs
    obtain ⟨rfl, rfl, rfl⟩ := hcs
    simp only [if_true] at hss
    refine ⟨fun i => a.add i, fun i => (ss.getD i ByteArray.empty).data.toList, ⟨hlen, fun i hi w' => ?_, fun i hi => ?_⟩⟩
    · have h1 : (0 : Int) ≤ (i : Int) ∧ (i : Int) < (len : Int) := by omega
      simp [Instr.indexAt, run_underlying hu, asIntOf, hz, h1, go_sem]
      intro hge; omega
    · rw [hcell i (by omega), S_of]
end Go.Proofs.YtendejpkdjkmnaaGreatDoor
/- A map of texts to pointers, as a function of texts. Over any program. -/
namespace Go.Proofs.YtendejpkdjkmnaaGreatDoor
open Go.RowKit Go.ChangeMaps

/-- How a pointer reads: as the number of its block. -/
def ptrR (v : Value) : Option (DataW Unit × List MemPlace) := match v with
  | .pointer (some ⟨b, 0, none⟩) => some (.lit (.int .i64 (b : Int)), [])
  | .pointer none => some (.lit (.int .i64 (-1)), [])
  | _ => none
def litO : Option Nat → DataW Unit
  | some b => .lit (.int .i64 (b : Int))
  | none => .lit (.int .i64 (-1))
def ptrO : Option Nat → Value
  | some b => .pointer (some ⟨b, 0, none⟩)
  | none => .pointer none
theorem ptrR_some (b : Nat) : ptrR (.pointer (some ⟨b, 0, none⟩)) = some (litO (some b), []) := rfl
theorem ptrR_none : ptrR (.pointer none) = some (litO none, []) := rfl
theorem ptr_inv {v : Value} {o : Option Nat} {ps : List MemPlace} (h : ptrR v = some (litO o, ps)) : v = ptrO o := by
  unfold ptrR at h
  split at h
  · rename_i b
    cases o with
    | none =>
      simp only [litO, Option.some.injEq, Prod.mk.injEq, DataW.lit.injEq, Lit.int.injEq, true_and] at h
      have := h.1
      omega
    | some c =>
      simp only [litO, Option.some.injEq, Prod.mk.injEq, DataW.lit.injEq, Lit.int.injEq, true_and] at h
      have : b = c := by have := h.1; omega
      rw [this]; rfl
  · cases o with
    | none => rfl
    | some c =>
      simp only [litO, Option.some.injEq, Prod.mk.injEq, DataW.lit.injEq, Lit.int.injEq, true_and] at h
      have := h.1
      omega
  · cases h
def updF (f : List UInt8 → Option Nat) (s : List UInt8) (g : Nat) : List UInt8 → Option Nat := fun x => if x = s then some g else f x
/-- Block b is a map of at most n texts, f of them. -/
def PMap (P : Program) (k : TypeId) (w : World) (b n : Nat) (f : List UInt8 → Option Nat) : Prop :=
  ∃ D : DataW Unit, w.ownsMap P k ptrR b n D ∧ ∀ s : List UInt8, s.length ≤ 1000000 → D.atKey (.string s) (litO none) = litO (f s) ∧ Maps.has D (.string s) = (f s).isSome
section
variable {P : Program} {k t e : TypeId} {w w' : World} {b n : Nat} {f : List UInt8 → Option Nat}
theorem PMap.lt (h : PMap P k w b n f) : b < w.heap.size := by
  obtain ⟨D, h1, _⟩ := h
  exact h1.lt
theorem PMap.mono (h : PMap P k w b n f) {m : Nat} (hm : n ≤ m) : PMap P k w b m f := by
  obtain ⟨D, h1, h2⟩ := h
  exact ⟨D, h1.mono hm, h2⟩
theorem PMap.same (h : PMap P k w b n f) (hb : w'.heap[b]? = w.heap[b]?) : PMap P k w' b n f := by
  obtain ⟨D, ⟨es, clock, h1, h2⟩, h3⟩ := h
  exact ⟨D, ⟨es, clock, hb.trans h1, h2⟩, h3⟩
theorem PMap.below (h : PMap P k w b n f) (hb : Below w.heap.size w w') : PMap P k w' b n f := h.same (hb.block b h.lt)
theorem PMap.grown {row : Option Nat} (h : PMap P k w b n f) (hg : w.grownBy w' row) (hne : some b ≠ row) : PMap P k w' b n f := h.same (hg.block b h.lt hne)
theorem pmap_made (w : World) : PMap P k (w.alloc (.map #[] 0)) w.heap.size 0 (fun _ => none) :=
  ⟨_, World.ownsMap_made w P k ptrR, fun _ _ => ⟨rfl, rfl⟩⟩
theorem key_S (hk : P.underlying k = some .string) {s : List UInt8} (hs : s.length ≤ 1000000) : keyOf P k (S s) = some (.string s) := by
  have := Go.WideMaps.keyOf_string_mk (P := P) hk (s := ⟨s.toArray⟩) (by rw [S_size]; simp only [maxLen]; omega)
  exact this
variable (hk : P.underlying k = some .string) (ht : P.underlying t = some (.map k e)) (hz : ∀ w, (zeroValue e).run P w = .ok (.pointer none) w)
include hk ht hz
theorem PMap.lookup (h : PMap P k w b n f) {s : List UInt8} (hs : s.length ≤ 1000000) : (Instr.lookup t (.map (some b)) (S s) false).run P w = .ok (ptrO (f s)) w := by
  obtain ⟨D, h1, h2⟩ := h
  obtain ⟨v, ps, hrun, hv⟩ := h1.lookup (Go.Maps.string_keyed hk) ht (hz w) ptrR_none (key_S hk hs)
  rw [(h2 s hs).1] at hv
  rw [hrun, ptr_inv hv]
theorem PMap.look_ok (h : PMap P k w b n f) {s : List UInt8} (hs : s.length ≤ 1000000) : (Instr.lookup t (.map (some b)) (S s) true).run P w = .ok (.tuple #[ptrO (f s), .bool (f s).isSome]) w := by
  obtain ⟨D, h1, h2⟩ := h
  obtain ⟨v, ps, hrun, hv⟩ := h1.look_ok (Go.Maps.string_keyed hk) ht (hz w) ptrR_none (key_S hk hs)
  rw [(h2 s hs).1] at hv
  rw [hrun, ptr_inv hv, (h2 s hs).2]
theorem nil_lookup {s : List UInt8} (hs : s.length ≤ 1000000) (w : World) : (Instr.lookup t (.map none) (S s) false).run P w = .ok (.pointer none) w := Maps.look_nil false (Go.Maps.string_keyed hk) ht (hz w) (key_S hk hs)
theorem nil_look_ok {s : List UInt8} (hs : s.length ≤ 1000000) (w : World) : (Instr.lookup t (.map none) (S s) true).run P w = .ok (.tuple #[.pointer none, .bool false]) w := Maps.look_nil true (Go.Maps.string_keyed hk) ht (hz w) (key_S hk hs)
omit hz in
theorem PMap.update (h : PMap P k w b n f) (hn : n < 1000000) {s : List UInt8} (hs : s.length ≤ 1000000) (g : Nat) :
    ∃ w', (Instr.mapUpdate t (.map (some b)) (S s) (.pointer (some ⟨g, 0, none⟩))).run P w = .ok () w' ∧ PMap P k w' b (n + 1) (updF f s g) ∧ w.grownBy w' (some b) := by
  obtain ⟨D, h1, h2⟩ := h
  obtain ⟨w', hrun, h3, h4⟩ := h1.update (Go.Maps.string_keyed hk) ht (by simp only [maxLen]; omega) (key_S hk hs) (ptrR_some g)
  refine ⟨w', hrun, ⟨_, h3, fun x hx => ?_⟩, h4⟩
  unfold updF
  by_cases he : x = s
  · subst he
    rw [if_pos rfl, Maps.atKey_put_same h1.isMap (k := .string x) trivial, Maps.has_put_same h1.isMap (k := .string x) trivial]
    exact ⟨rfl, rfl⟩
  · rw [if_neg he, Maps.atKey_put_other (fun e => he (by injection e)), Maps.has_put_other (fun e => he (by injection e))]
    exact h2 x hx
omit hz in
/-- m[s] = p, at the operation. -/
theorem wpList_putP {ops : Array Oper} {rest : List Oper} {o : Oper} {a : Act} {Q : Exit → Act → World → Prop} (hg : o.guard = none) (m x v : Operand) (hop : o.op = Op.mapUpdate t m x v) (hm : a.eval m = .map (some b)) (h : PMap P k w b n f) (hn : n < 1000000)
    (s : List UInt8) (hx : a.eval x = S s) (hs : s.length ≤ 1000000) (g : Nat) (hv : a.eval v = .pointer (some ⟨g, 0, none⟩))
    (hK : ∀ w', PMap P k w' b (n + 1) (updF f s g) → w.grownBy w' (some b) → wpList P ops Q rest (a.put o.dst undef) w') : wpList P ops Q (o :: rest) a w := by
  refine wpList_plain hg fun K' hK' => ?_
  obtain ⟨w', hrun, r1, r2⟩ := h.update hk ht hn hs g
  unfold Oper.wp
  simp [execOp, hop, hm, hx, hv, hrun, Result.andThen]
  exact hK' _ _ (hK w' r1 r2)
end
end Go.Proofs.YtendejpkdjkmnaaGreatDoor
/- A map of texts to routes, as a function of texts. -/
namespace Go.Proofs.YtendejpkdjkmnaaGreatDoor
open Go.RowKit Go.ChangeMaps

/-- The bytes of a text. -/
theorem SU_inj {a b : Txt} (h : S a = S b) : a = b := by
  unfold S at h
  injection h with h
  injection h with h
  simpa using h
theorem rtV_inj {a b : Rt} (h : rtV a = rtV b) : a = b := by
  obtain ⟨am, ap, ak, at_⟩ := a
  obtain ⟨bm, bp, bk, bt⟩ := b
  unfold rtV rtC at h
  simp only [Value.agg.injEq, Array.mk.injEq, List.cons.injEq, Value.int.injEq, true_and, and_true] at h
  obtain ⟨h1, h2, h3, h4⟩ := h
  rw [SU_inj h1, SU_inj h2, h3, SU_inj h4]
def litR (r : Rt) : DataW Unit := .agg [.lit (.string r.m), .lit (.string r.p), .lit (.int .i64 r.kind), .lit (.string r.text)]
theorem litR_inj {a b : Rt} (h : litR a = litR b) : a = b := by
  obtain ⟨am, ap, ak, at_⟩ := a
  obtain ⟨bm, bp, bk, bt⟩ := b
  unfold litR at h
  simp only [DataW.agg.injEq, List.cons.injEq, DataW.lit.injEq, Lit.string.injEq, Lit.int.injEq, true_and, and_true] at h
  obtain ⟨rfl, rfl, rfl, rfl⟩ := h
  rfl
/-- How a route reads. -/
noncomputable def rtR (v : Value) : Option (DataW Unit × List MemPlace) := @dite _ (∃ r, v = rtV r) (Classical.propDecidable _) (fun h => some (litR h.choose, [])) (fun _ => none)
theorem rtR_mk (r : Rt) : rtR (rtV r) = some (litR r, []) := by
  have h : ∃ q, rtV r = rtV q := ⟨r, rfl⟩
  unfold rtR
  rw [dif_pos h, ← rtV_inj h.choose_spec]
theorem rtR_inv {v : Value} {r : Rt} {ps : List MemPlace} (h : rtR v = some (litR r, ps)) : v = rtV r := by
  unfold rtR at h
  by_cases hx : ∃ q, v = rtV q
  · rw [dif_pos hx] at h
    simp only [Option.some.injEq, Prod.mk.injEq] at h
    rw [← litR_inj h.1]
    exact hx.choose_spec
  · rw [dif_neg hx] at h; cases h
theorem exec_insertR {P : Program} {o : Oper} {e : Operand → Value} (t : TypeId) (m x v : Operand) (ho : o.op = Op.insert t m x v) {w w' : World} (h : (Instr.mapUpdate t (e m) (e x) (e v)).run P w = .ok () w') : (execOp e o).run P w = .ok .skip w' := by
  simp [execOp, ho, h, Result.andThen]
def rt0 : Rt := ⟨[], [], 0, []⟩
def updR (f : Txt → Option Rt) (s : Txt) (r : Rt) : Txt → Option Rt := fun x => if x = s then some r else f x
/-- Block b is a map of at most n texts, f of them. -/
def RMap (P : Program) (k : TypeId) (w : World) (b n : Nat) (f : Txt → Option Rt) : Prop :=
  ∃ D : DataW Unit, w.ownsMap P k rtR b n D ∧ ∀ s : Txt, D.atKey (.string s) (litR rt0) = litR ((f s).getD rt0) ∧ Maps.has D (.string s) = (f s).isSome
section
variable {P : Program} {k t e : TypeId} {w w' : World} {b n : Nat} {f : Txt → Option Rt}
theorem RMap.lt (h : RMap P k w b n f) : b < w.heap.size := by
  obtain ⟨D, h1, _⟩ := h
  exact h1.lt
theorem RMap.mono (h : RMap P k w b n f) {m : Nat} (hm : n ≤ m) : RMap P k w b m f := by
  obtain ⟨D, h1, h2⟩ := h
  exact ⟨D, h1.mono hm, h2⟩
theorem RMap.same (h : RMap P k w b n f) (hb : w'.heap[b]? = w.heap[b]?) : RMap P k w' b n f := by
  obtain ⟨D, ⟨es, clock, h1, h2⟩, h3⟩ := h
  exact ⟨D, ⟨es, clock, hb.trans h1, h2⟩, h3⟩
theorem RMap.below (h : RMap P k w b n f) (hb : Below w.heap.size w w') : RMap P k w' b n f := h.same (hb.block b h.lt)
theorem RMap.to (h : RMap P k w b n f) {g : Txt → Option Rt} (hg : ∀ s, g s = f s) : RMap P k w b n g := by
  have e : g = f := funext hg
  rw [e]; exact h
theorem rmap_made (w : World) : RMap P k (w.alloc (.map #[] 0)) w.heap.size 0 (fun _ => none) :=
  ⟨_, World.ownsMap_made w P k rtR, fun _ => ⟨rfl, rfl⟩⟩
/-- The keys, each once. -/
theorem RMap.keys (hk : P.underlying k = some .string) (h : RMap P k w b n f) : ∃ D : DataW Unit, w.ownsMap P k rtR b n D ∧ Maps.size D ≤ n ∧ (strKeys D).Nodup ∧ (∀ s, s ∈ strKeys D ↔ (f s).isSome = true) := by
  obtain ⟨D, h1, h2⟩ := h
  refine ⟨D, h1, h1.size_le, ?_⟩
  obtain ⟨es, hD, hpw, _⟩ := h1.entries (Go.Maps.string_keyed hk)
  obtain ⟨es', hD', hko⟩ := h1.keysOf
  obtain rfl : es = es' := by rw [hD] at hD'; simpa using hD'
  subst hD
  have hs : ∀ p ∈ es, ∃ x, p.1 = .string x := fun p hp => by obtain ⟨v, hv⟩ := hko p hp; obtain ⟨x, _, hx, _⟩ := Maps.keyOf_str hk hv; exact ⟨x, hx⟩
  constructor
  · show (es.map fun p => strOf p.1).Nodup
    refine List.pairwise_map.2 (hpw.imp_of_mem fun {p q} hp' hq' hne e => hne ?_)
    obtain ⟨a, ha⟩ := hs p hp'
    obtain ⟨b, hb⟩ := hs q hq'
    rw [ha, hb] at e ⊢
    exact congrArg _ e
  · intro x
    rw [← (h2 x).2, Maps.has_eq, List.any_eq_true]
    show x ∈ es.map (fun p => strOf p.1) ↔ _
    rw [List.mem_map]
    constructor
    · rintro ⟨p, hp', rfl⟩
      obtain ⟨a, ha⟩ := hs p hp'
      exact ⟨p, hp', by rw [ha]; simp [Lit.sameKey, strOf]⟩
    · rintro ⟨p, hp', hq⟩
      obtain ⟨a, ha⟩ := hs p hp'
      rw [ha] at hq
      exact ⟨p, hp', by rw [ha]; simpa [Lit.sameKey, strOf] using hq⟩
variable (hk : P.underlying k = some .string) (ht : P.underlying t = some (.map k e)) (hz : ∀ w, (zeroValue e).run P w = .ok (rtV rt0) w)
include hk ht hz
theorem RMap.look_ok (h : RMap P k w b n f) {s : Txt} (hs : s.length ≤ 1000000) : (Instr.lookup t (.map (some b)) (S s) true).run P w = .ok (.tuple #[rtV ((f s).getD rt0), .bool (f s).isSome]) w := by
  obtain ⟨D, h1, h2⟩ := h
  obtain ⟨v, ps, hrun, hv⟩ := h1.look_ok (Go.Maps.string_keyed hk) ht (hz w) (rtR_mk rt0) (key_S hk hs)
  rw [(h2 s).1] at hv
  rw [hrun, rtR_inv hv, (h2 s).2]
omit hz in
theorem RMap.update (h : RMap P k w b n f) (hn : n < 1000000) {s : Txt} (hs : s.length ≤ 1000000) (r : Rt) :
    ∃ w', (Instr.mapUpdate t (.map (some b)) (S s) (rtV r)).run P w = .ok () w' ∧ RMap P k w' b (n + 1) (updR f s r) ∧ w.grownBy w' (some b) := by
  obtain ⟨D, h1, h2⟩ := h
  obtain ⟨w', hrun, h3, h4⟩ := h1.update (Go.Maps.string_keyed hk) ht (by simp only [maxLen]; omega) (key_S hk hs) (rtR_mk r)
  refine ⟨w', hrun, ⟨_, h3, fun x => ?_⟩, h4⟩
  unfold updR
  by_cases he : x = s
  · subst he
    rw [if_pos rfl, Maps.atKey_put_same h1.isMap (k := .string x) trivial, Maps.has_put_same h1.isMap (k := .string x) trivial]
    exact ⟨rfl, rfl⟩
  · rw [if_neg he, Maps.atKey_put_other (fun e => he (by injection e)), Maps.has_put_other (fun e => he (by injection e))]
    exact h2 x
omit hz in
/-- m[s] = r, at the operation. -/
theorem wpList_putR {ops : Array Oper} {rest : List Oper} {o : Oper} {a : Act} {Q : Exit → Act → World → Prop} (hg : o.guard = none) (m x v : Operand) (hop : o.op = Op.mapUpdate t m x v) (hm : a.eval m = .map (some b)) (h : RMap P k w b n f) (hn : n < 1000000)
    (s : Txt) (hx : a.eval x = S s) (hs : s.length ≤ 1000000) (r : Rt) (hv : a.eval v = rtV r)
    (hK : ∀ w', RMap P k w' b (n + 1) (updR f s r) → w.grownBy w' (some b) → wpList P ops Q rest (a.put o.dst undef) w') : wpList P ops Q (o :: rest) a w := by
  obtain ⟨D, h1, h2⟩ := h
  refine wpList_mapUpdate_own w hg m x v t hop k e (Go.Maps.string_keyed hk) ht rtR b n D hm h1 (by simp only [maxLen]; omega) (S s) (rtV r) (.string s) hx hv (key_S hk hs) (litR r) [] (rtR_mk r) ?_
  intro w' h3 h4
  refine hK w' ⟨_, h3, fun x => ?_⟩ h4
  unfold updR
  by_cases he : x = s
  · subst he
    rw [if_pos rfl, Maps.atKey_put_same h1.isMap (k := .string x) trivial, Maps.has_put_same h1.isMap (k := .string x) trivial]
    exact ⟨rfl, rfl⟩
  · rw [if_neg he, Maps.atKey_put_other (fun e => he (by injection e)), Maps.has_put_other (fun e => he (by injection e))]
    exact h2 x
end
end Go.Proofs.YtendejpkdjkmnaaGreatDoor
/- Patterns as rows of keys: what a walk from node to node finds is the best one. -/
namespace Go.Proofs.YtendejpkdjkmnaaGreatDoor
open Go.RowKit

/-- What a node's child stands under. -/
inductive Key where
  | lit (s : Txt)
  | par
  | rst
deriving DecidableEq
def keyS (s : Txt) : Key := if kindS s = 0 then .lit s else if kindS s = 1 then .par else .rst
def keysF (l : List Txt) : List Key := l.map keyS
def rankK : Key → Nat
  | .lit _ => 0
  | .par => 1
  | .rst => 2
theorem rank_kind (s : Txt) : rankK (keyS s) = kindS s := by
  have h := kind_le s
  unfold keyS
  split
  · rename_i h0; rw [h0]; rfl
  · split
    · rename_i h1; rw [h1]; rfl
    · show 2 = _
      omega
theorem key_eq (s t : Txt) : (keyS s = keyS t) ↔ (kindS s = kindS t ∧ (kindS s = 0 → s = t)) := by
  constructor
  · intro h
    have hk : kindS s = kindS t := by rw [← rank_kind, ← rank_kind, h]
    refine ⟨hk, fun h0 => ?_⟩
    unfold keyS at h
    rw [if_pos h0, if_pos (by rw [← hk]; exact h0)] at h
    injection h
  · rintro ⟨h1, h2⟩
    unfold keyS
    rw [← h1]
    split
    · rename_i h0; rw [h2 h0]
    · rfl
theorem twin_keys : ∀ a b : List Txt, twinF a b = true ↔ keysF a = keysF b
  | [], [] => by simp [twinF, keysF]
  | [], _ :: _ => by simp [twinF, keysF]
  | _ :: _, [] => by simp [twinF, keysF]
  | s :: a, t :: b => by
    rw [twinF, Bool.and_eq_true, twin_keys a b]
    show _ ↔ keyS s :: keysF a = keyS t :: keysF b
    rw [List.cons.injEq, key_eq]
    refine and_congr_left fun _ => ?_
    rw [Bool.and_eq_true, beq_iff_eq, Bool.or_eq_true, bne_iff_ne, beq_iff_eq]
    exact and_congr_right fun _ => ⟨fun h h0 => h.resolve_left fun e => e h0, fun h => by
      by_cases h0 : kindS s = 0
      · exact .inr (h h0)
      · exact .inl h0⟩
def fitK : List Key → List Txt → Bool
  | [], [] => true
  | .rst :: _, _ :: _ => true
  | .par :: l, x :: p => x != [] && fitK l p
  | .lit s :: l, x :: p => s == x && fitK l p
  | _, _ => false
theorem fit_keys : ∀ l p : List Txt, fitsF l p = fitK (keysF l) p
  | [], [] => rfl
  | [], _ :: _ => rfl
  | s :: l, [] => by
    show _ = fitK (keyS s :: keysF l) []
    cases keyS s <;> rfl
  | s :: l, x :: p => by
    rw [fitsF, fit_keys l p]
    show _ = fitK (keyS s :: keysF l) (x :: p)
    have h := kind_le s
    unfold keyS
    by_cases h0 : kindS s = 0
    · rw [if_pos h0, if_neg (by omega), if_neg (by omega)]; rfl
    · by_cases h1 : kindS s = 1
      · rw [if_neg h0, if_pos h1, if_neg (by omega), if_pos h1]; rfl
      · rw [if_neg h0, if_neg h1, if_pos (by omega), if_neg h1]; rfl
def betterK : List Key → List Key → Bool
  | a :: ar, b :: bs => if rankK a ≠ rankK b then decide (rankK a < rankK b) else betterK ar bs
  | _, _ => false
theorem better_keys : ∀ a b : List Txt, betterF a b = betterK (keysF a) (keysF b)
  | [], _ => by simp [betterF, keysF, betterK]
  | _ :: _, [] => by simp [betterF, keysF, betterK]
  | s :: a, t :: b => by
    rw [betterF, better_keys a b]
    show _ = betterK (keyS s :: keysF a) (keyS t :: keysF b)
    rw [betterK, rank_kind, rank_kind]
theorem tidy_keys : ∀ (l : List Txt) (k r : List Key), Tidy l → keysF l = k ++ .rst :: r → r = []
  | [], k, r, _, h => by
    cases k <;> simp [keysF] at h
  | s :: l, [], r, ht, h => by
    have h : keyS s :: keysF l = .rst :: r := h
    injection h with h1 h2
    have hk : kindS s = 2 := by rw [← rank_kind, h1]; rfl
    rw [ht.1.2 hk] at h2
    exact h2.symm
  | s :: l, c :: k, r, ht, h => by
    have h : keyS s :: keysF l = c :: (k ++ .rst :: r) := h
    injection h with _ h2
    exact tidy_keys l k r ht.2 h2
section
variable {α : Type}
/-- What is found from a node on: k leads to it. -/
def findK (dom : List Key → Bool) (here : List Key → Option α) : List Key → List Txt → Option α
  | k, [] => here k
  | k, x :: p =>
    ((if dom (k ++ [.lit x]) = true then findK dom here (k ++ [.lit x]) p else none).or
      (if x ≠ [] ∧ dom (k ++ [.par]) = true then findK dom here (k ++ [.par]) p else none)).or
      (if dom (k ++ [.rst]) = true then here (k ++ [.rst]) else none)
end
section
variable {β : Type}
/-- Nodes that hold these patterns: each pattern's node has it, all nodes on the way are there. -/
structure Keyd (l : Ents β) (dom : List Key → Bool) (here : List Key → Option (Txt × β)) : Prop where
  at_ : ∀ k e, here k = some e ↔ e ∈ l ∧ keysF (segD e.1) = k
  way : ∀ e ∈ l, ∀ k r, keysF (segD e.1) = k ++ r → dom k = true
/-- The best one of those below a node. -/
def FromK (l : Ents β) (k : List Key) (p : List Txt) (o : Option (Txt × β)) : Prop := match o with
  | none => ∀ e ∈ l, ∀ r, keysF (segD e.1) = k ++ r → fitK r p = false
  | some e => e ∈ l ∧ ∃ r, keysF (segD e.1) = k ++ r ∧ fitK r p = true ∧ ∀ f ∈ l, ∀ r', keysF (segD f.1) = k ++ r' → fitK r' p = true → f = e ∨ betterK r r' = true
theorem from_one {l : Ents β} {dom : List Key → Bool} {here : List Key → Option (Txt × β)} (hw : Wf l) (h : Keyd l dom here) : ∀ (p : List Txt) (k : List Key), FromK l k p (findK dom here k p)
  | [], k => by
    unfold findK
    cases ho : here k with
    | none =>
      intro e he r hr
      cases r with
      | nil =>
        rw [List.append_nil] at hr
        rw [(h.at_ k e).2 ⟨he, hr⟩] at ho; cases ho
      | cons a r => cases a <;> rfl
    | some e =>
      obtain ⟨he, hk⟩ := (h.at_ k e).1 ho
      refine ⟨he, [], by rw [hk, List.append_nil], rfl, fun f hf r' hr' hfit => ?_⟩
      cases r' with
      | nil =>
        left
        refine hw.same hf he ((twin_keys _ _).2 ?_)
        rw [hr', hk, List.append_nil]
      | cons a r => cases a <;> cases hfit
  | x :: p, k => by
    have i1 := from_one hw h p (k ++ [.lit x])
    have i2 := from_one hw h p (k ++ [.par])
    unfold findK
    -- a literal that is just this
    have a1 : ∀ e ∈ l, ∀ r, keysF (segD e.1) = k ++ .lit x :: r → dom (k ++ [.lit x]) = true := fun e he r hr => h.way e he _ r (by rw [hr, List.append_assoc]; rfl)
    have a2 : ∀ e ∈ l, ∀ r, keysF (segD e.1) = k ++ .par :: r → dom (k ++ [.par]) = true := fun e he r hr => h.way e he _ r (by rw [hr, List.append_assoc]; rfl)
    have a3 : ∀ e ∈ l, ∀ r, keysF (segD e.1) = k ++ .rst :: r → dom (k ++ [.rst]) = true ∧ here (k ++ [.rst]) = some e := fun e he r hr => by
      have hr0 := tidy_keys _ _ _ (hw.tidy he) hr
      subst hr0
      exact ⟨h.way e he _ [] (by rw [hr, List.append_nil]), (h.at_ _ _).2 ⟨he, hr⟩⟩
    have b1 : ∀ o, (if dom (k ++ [.lit x]) = true then findK dom here (k ++ [.lit x]) p else none) = o → FromK l (k ++ [.lit x]) p o := fun o ho => by
      split at ho
      · rw [← ho]; exact i1
      · subst ho
        rename_i hd
        intro e he r hr
        exact absurd (a1 e he r (by rw [hr, List.append_assoc]; rfl)) hd
    have b2 : ∀ o, (if x ≠ [] ∧ dom (k ++ [.par]) = true then findK dom here (k ++ [.par]) p else none) = o → (x ≠ [] → FromK l (k ++ [.par]) p o) ∧ (x = [] → o = none) := fun o ho => by
      split at ho
      · rename_i hd
        exact ⟨fun _ => by rw [← ho]; exact i2, fun hx => absurd hx hd.1⟩
      · subst ho
        rename_i hd
        refine ⟨fun hx e he r hr => ?_, fun _ => rfl⟩
        exact absurd ⟨hx, a2 e he r (by rw [hr, List.append_assoc]; rfl)⟩ hd
    generalize (if dom (k ++ [.lit x]) = true then findK dom here (k ++ [.lit x]) p else none) = o1 at *
    generalize (if x ≠ [] ∧ dom (k ++ [.par]) = true then findK dom here (k ++ [.par]) p else none) = o2 at *
    have c1 := b1 o1 rfl
    have c2 := b2 o2 rfl
    -- what fits here is one of three
    have hsplit : ∀ f ∈ l, ∀ r', keysF (segD f.1) = k ++ r' → fitK r' (x :: p) = true → (∃ r, r' = .lit x :: r ∧ fitK r p = true) ∨ (∃ r, r' = .par :: r ∧ x ≠ [] ∧ fitK r p = true) ∨ (∃ r, r' = .rst :: r) := by
      intro f _ r' _ hfit
      cases r' with
      | nil => cases hfit
      | cons a r =>
        cases a with
        | lit s =>
          rw [fitK, Bool.and_eq_true, beq_iff_eq] at hfit
          exact .inl ⟨r, by rw [hfit.1], hfit.2⟩
        | par =>
          rw [fitK, Bool.and_eq_true, bne_iff_ne] at hfit
          exact .inr (.inl ⟨r, rfl, hfit.1, hfit.2⟩)
        | rst => exact .inr (.inr ⟨r, rfl⟩)
    have app : ∀ (c : Key) (r : List Key), k ++ c :: r = k ++ [c] ++ r := fun c r => by rw [List.append_assoc]; rfl
    cases o1 with
    | some e =>
      obtain ⟨he, r, hr, hfit, hbest⟩ := c1
      refine ⟨he, .lit x :: r, hr.trans (app _ _).symm, by rw [fitK, hfit, beq_self_eq_true]; rfl, fun f hf r' hr' hfit' => ?_⟩
      rcases hsplit f hf r' hr' hfit' with ⟨q, rfl, hq⟩ | ⟨q, rfl, _, _⟩ | ⟨q, rfl⟩
      · rcases hbest f hf q (by rw [hr', app]) hq with h1 | h1
        · exact .inl h1
        · right; rw [betterK, if_neg (fun e => e rfl)]; exact h1
      · right; rfl
      · right; rfl
    | none =>
      have n1 : ∀ f ∈ l, ∀ r, keysF (segD f.1) = k ++ .lit x :: r → fitK r p = false := fun f hf r hr => c1 f hf r (by rw [hr, app])
      cases o2 with
      | some e =>
        have hx : x ≠ [] := fun hx => by cases c2.2 hx
        obtain ⟨he, r, hr, hfit, hbest⟩ := c2.1 hx
        refine ⟨he, .par :: r, hr.trans (app _ _).symm, by rw [fitK, hfit, Bool.and_true]; exact bne_iff_ne.2 hx, fun f hf r' hr' hfit' => ?_⟩
        rcases hsplit f hf r' hr' hfit' with ⟨q, rfl, hq⟩ | ⟨q, rfl, _, hq⟩ | ⟨q, rfl⟩
        · rw [n1 f hf q hr'] at hq; cases hq
        · rcases hbest f hf q (by rw [hr', app]) hq with h1 | h1
          · exact .inl h1
          · right; rw [betterK, if_neg (fun e => e rfl)]; exact h1
        · right; rfl
      | none =>
        have n2 : ∀ f ∈ l, ∀ r, x ≠ [] → keysF (segD f.1) = k ++ .par :: r → fitK r p = false := fun f hf r hx hr => c2.1 hx f hf r (by rw [hr, app])
        show FromK l k (x :: p) (if dom (k ++ [.rst]) = true then here (k ++ [.rst]) else none)
        have nof : (∀ f ∈ l, ∀ r, keysF (segD f.1) ≠ k ++ .rst :: r) → FromK l k (x :: p) none := by
          intro hno e he r hr
          cases hfit : fitK r (x :: p) with
          | false => rfl
          | true =>
            rcases hsplit e he r hr hfit with ⟨q, rfl, hq⟩ | ⟨q, rfl, hx, hq⟩ | ⟨q, rfl⟩
            · rw [n1 e he q hr] at hq; cases hq
            · rw [n2 e he q hx hr] at hq; cases hq
            · exact absurd hr (hno e he q)
        split
        · cases ho : here (k ++ [.rst]) with
          | none =>
            refine nof fun f hf r hr => ?_
            rw [(a3 f hf r hr).2] at ho; cases ho
          | some e =>
            obtain ⟨he, hk⟩ := (h.at_ _ _).1 ho
            refine ⟨he, [.rst], hk, rfl, fun f hf r' hr' hfit' => ?_⟩
            rcases hsplit f hf r' hr' hfit' with ⟨q, rfl, hq⟩ | ⟨q, rfl, hx, hq⟩ | ⟨q, rfl⟩
            · rw [n1 f hf q hr'] at hq; cases hq
            · rw [n2 f hf q hx hr'] at hq; cases hq
            · left
              have := (a3 f hf q hr').2
              rw [ho] at this
              injection this with this
              exact this.symm
        · rename_i hd
          exact nof fun f hf r hr => hd (a3 f hf r hr).1
theorem find_keys {l : Ents β} {dom : List Key → Bool} {here : List Key → Option (Txt × β)} (hw : Wf l) (h : Keyd l dom here) (path : List Txt) : FindIs l path (findK dom here [] path) := by
  have h1 := from_one hw h path []
  generalize findK dom here [] path = o at *
  cases o with
  | none =>
    intro f hf
    rw [fit_keys]
    exact h1 f hf _ rfl
  | some e =>
    obtain ⟨he, r, hr, hfit, hbest⟩ := h1
    have hr : keysF (segD e.1) = r := hr
    refine ⟨he, by rw [fit_keys, hr]; exact hfit, fun f hf hff => ?_⟩
    rw [fit_keys] at hff
    rw [better_keys, hr]
    exact hbest f hf _ rfl hff
/-- Is a twin there? -/
theorem twin_here {l : Ents β} {dom : List Key → Bool} {here : List Key → Option (Txt × β)} (h : Keyd l dom here) (s : List Txt) : (l.any fun e => twinF s (segD e.1)) = (here (keysF s)).isSome := by
  rw [Bool.eq_iff_iff, List.any_eq_true]
  constructor
  · rintro ⟨e, he, ht⟩
    rw [(h.at_ (keysF s) e).2 ⟨he, ((twin_keys _ _).1 ht).symm⟩]; rfl
  · intro hs
    obtain ⟨e, he⟩ := Option.isSome_iff_exists.1 hs
    obtain ⟨h1, h2⟩ := (h.at_ _ _).1 he
    exact ⟨e, h1, (twin_keys _ _).2 h2.symm⟩
theorem keyd_nil (dom : List Key → Bool) : Keyd ([] : Ents β) dom (fun _ => none) := ⟨fun k e => by simp, fun e he => by cases he⟩
/-- More nodes turn nothing. -/
theorem Keyd.more {l : Ents β} {dom dom' : List Key → Bool} {here : List Key → Option (Txt × β)} (h : Keyd l dom here) (hd : ∀ k, dom k = true → dom' k = true) : Keyd l dom' here :=
  ⟨h.at_, fun e he k r hr => hd k (h.way e he k r hr)⟩
/-- One more pattern. -/
theorem Keyd.add {l : Ents β} {dom : List Key → Bool} {here : List Key → Option (Txt × β)} (h : Keyd l dom here) (p : Txt) (x : β) (hn : here (keysF (segD p)) = none) (hd : ∀ k r, keysF (segD p) = k ++ r → dom k = true) :
    Keyd (l ++ [(p, x)]) dom (fun k => if k = keysF (segD p) then some (p, x) else here k) := by
  refine ⟨fun k e => ?_, fun e he k r hr => ?_⟩
  · by_cases hk : k = keysF (segD p)
    · rw [if_pos hk, List.mem_append, List.mem_singleton]
      constructor
      · intro h1
        injection h1 with h1
        subst h1
        exact ⟨.inr rfl, hk.symm⟩
      · rintro ⟨h1 | h1, h2⟩
        · have := (h.at_ k e).2 ⟨h1, h2⟩
          rw [hk, hn] at this; cases this
        · rw [h1]
    · rw [if_neg hk, List.mem_append, List.mem_singleton, h.at_]
      constructor
      · rintro ⟨h1, h2⟩; exact ⟨.inl h1, h2⟩
      · rintro ⟨h1 | h1, h2⟩
        · exact ⟨h1, h2⟩
        · subst h1; exact absurd h2.symm hk
  · rcases List.mem_append.1 he with he | he
    · exact h.way e he k r hr
    · rw [List.mem_singleton] at he
      subst he
      exact hd k r hr
end
end Go.Proofs.YtendejpkdjkmnaaGreatDoor
/- The landed search as list functions: a list of open places, the best one last; names that are twice; what is taken. -/
namespace Go.Proofs.YtendejpkdjkmnaaGreatDoor
open Go.RowKit

section
variable {α : Type} {dom : List Key → Bool} {here : List Key → Option α} {path : List Txt}
theorem findK_nil (k : List Key) : findK dom here k [] = here k := by unfold findK; rfl
theorem findK_cons (k : List Key) (x : Txt) (p : List Txt) : findK dom here k (x :: p) =
    ((if dom (k ++ [.lit x]) = true then findK dom here (k ++ [.lit x]) p else none).or
      (if x ≠ [] ∧ dom (k ++ [.par]) = true then findK dom here (k ++ [.par]) p else none)).or
      (if dom (k ++ [.rst]) = true then here (k ++ [.rst]) else none) := by
  conv => lhs; unfold findK
/-- A place: the keys that lead there, and how many segments are read. -/
abbrev Plc := List Key × Nat
def plcF (dom : List Key → Bool) (here : List Key → Option α) (path : List Txt) (q : Plc) : Option α := findK dom here q.1 (path.drop q.2)
/-- What is found of open places, the last one first. -/
def srch (dom : List Key → Bool) (here : List Key → Option α) (path : List Txt) (st : List Plc) : Option α := st.foldl (fun acc q => (plcF dom here path q).or acc) none
theorem srch_nil : srch dom here path [] = none := rfl
theorem srch_snoc (st : List Plc) (q : Plc) : srch dom here path (st ++ [q]) = (plcF dom here path q).or (srch dom here path st) := by
  unfold srch; rw [List.foldl_append]; rfl
def onR (dom : List Key → Bool) (path : List Txt) (q : Plc) : List Plc := if dom (q.1 ++ [.rst]) = true then [(q.1 ++ [.rst], path.length)] else []
def onP (dom : List Key → Bool) (q : Plc) (x : Txt) : List Plc := if dom (q.1 ++ [.par]) = true ∧ x ≠ [] then [(q.1 ++ [.par], q.2 + 1)] else []
def onL (dom : List Key → Bool) (q : Plc) (x : Txt) : List Plc := if dom (q.1 ++ [.lit x]) = true then [(q.1 ++ [.lit x], q.2 + 1)] else []
theorem srch_one (st : List Plc) (b : Prop) [Decidable b] (q : Plc) : srch dom here path (st ++ (if b then [q] else [])) = (if b then plcF dom here path q else none).or (srch dom here path st) := by
  split
  · exact srch_snoc st q
  · rw [List.append_nil]; rfl
theorem srch_on (st : List Plc) (q : Plc) (x : Txt) (hx : path[q.2]? = some x) : srch dom here path (((st ++ onR dom path q) ++ onP dom q x) ++ onL dom q x) = (plcF dom here path q).or (srch dom here path st) := by
  unfold onL onP onR
  rw [srch_one, srch_one, srch_one]
  have hd : path.drop q.2 = x :: path.drop (q.2 + 1) := by
    obtain ⟨hl, rfl⟩ := List.getElem?_eq_some_iff.1 hx
    exact List.drop_eq_getElem_cons hl
  have e0 : plcF dom here path q = findK dom here q.1 (x :: path.drop (q.2 + 1)) := by unfold plcF; rw [hd]
  have e1 : plcF dom here path (q.1 ++ [.rst], path.length) = here (q.1 ++ [.rst]) := by
    show findK dom here (q.1 ++ [.rst]) (path.drop path.length) = _
    rw [List.drop_length, findK_nil]
  rw [e0, findK_cons, e1, Option.or_assoc, Option.or_assoc]
  simp only [and_comm (a := x ≠ [])]
  rfl
theorem plc_end (q : Plc) (h : path.length ≤ q.2) : plcF dom here path q = here q.1 := by
  unfold plcF; rw [List.drop_eq_nil_of_le h, findK_nil]
end
def costN : Nat → Nat
  | 0 => 1
  | n + 1 => 3 * costN n + 1
theorem cost_pos : ∀ n, 1 ≤ costN n
  | 0 => Nat.le_refl _
  | n + 1 => by rw [costN]; omega
theorem cost_up : ∀ {n m : Nat}, n ≤ m → costN n ≤ costN m
  | n, 0, h => by obtain rfl : n = 0 := by omega
                  exact Nat.le_refl _
  | n, m + 1, h => by
    by_cases e : n = m + 1
    · rw [e]; exact Nat.le_refl _
    · have := cost_up (n := n) (m := m) (by omega)
      rw [costN]; omega
theorem cost12 {n : Nat} (h : n ≤ 12) : costN n ≤ 797161 := cost_up (m := 12) h
/-- How much is left to look at. -/
def stCost (m : Nat) (st : List Plc) : Nat := (st.map fun q => costN (m - q.2)).sum
theorem stCost_app (m : Nat) (st l : List Plc) : stCost m (st ++ l) = stCost m st + stCost m l := by
  unfold stCost; rw [List.map_append, List.sum_append]
theorem stCost_one (m : Nat) (q : Plc) : stCost m [q] = costN (m - q.2) := by simp [stCost]
theorem stCost_if (m : Nat) (b : Prop) [Decidable b] (q : Plc) : stCost m (if b then [q] else []) ≤ costN (m - q.2) := by
  split
  · rw [stCost_one]; exact Nat.le_refl _
  · exact Nat.zero_le _
theorem st_len (m : Nat) : ∀ st : List Plc, st.length ≤ stCost m st
  | [] => Nat.zero_le _
  | q :: st => by
    have h1 := st_len m st
    have h2 := cost_pos (m - q.2)
    show st.length + 1 ≤ costN (m - q.2) + stCost m st
    omega
theorem stCost_on {dom : List Key → Bool} {path : List Txt} (st : List Plc) (q : Plc) (x : Txt) (h : q.2 < path.length) :
    stCost path.length (((st ++ onR dom path q) ++ onP dom q x) ++ onL dom q x) + 1 ≤ stCost path.length (st ++ [q]) := by
  rw [stCost_app, stCost_app, stCost_app, stCost_app, stCost_one]
  have h1 : stCost path.length (onR dom path q) ≤ costN (path.length - path.length) := stCost_if _ _ _
  have h2 : stCost path.length (onP dom q x) ≤ costN (path.length - (q.2 + 1)) := stCost_if _ _ _
  have h3 : stCost path.length (onL dom q x) ≤ costN (path.length - (q.2 + 1)) := stCost_if _ _ _
  rw [Nat.sub_self] at h1
  have h4 := cost_pos (path.length - (q.2 + 1))
  have h5 : path.length - q.2 = (path.length - (q.2 + 1)) + 1 := by omega
  have h6 : costN 0 = 1 := rfl
  rw [h5, costN]
  omega
/-- What is found here and there goes together. -/
def OptRel {α β : Type} (Q : α → β → Prop) : Option α → Option β → Prop
  | none, none => True
  | some a, some b => Q a b
  | _, _ => False
section
variable {α β : Type} {Q : α → β → Prop}
theorem OptRel.or {a a' : Option α} {b b' : Option β} (h : OptRel Q a b) (h' : OptRel Q a' b') : OptRel Q (a.or a') (b.or b') := by
  cases a <;> cases b
  · exact h'
  · exact h.elim
  · exact h.elim
  · exact h
theorem OptRel.ite {b : Prop} [Decidable b] {x : Option α} {y : Option β} (h : OptRel Q x y) : OptRel Q (if b then x else none) (if b then y else none) := by
  split
  · exact h
  · trivial
theorem findK_rel {dom : List Key → Bool} {e : List Key → Option α} {f : List Key → Option β} (h : ∀ k, OptRel Q (e k) (f k)) : ∀ (p : List Txt) (k : List Key), OptRel Q (findK dom e k p) (findK dom f k p)
  | [], k => by rw [findK_nil, findK_nil]; exact h k
  | x :: p, k => by
    rw [findK_cons, findK_cons]
    exact ((OptRel.ite (findK_rel h p _)).or (OptRel.ite (findK_rel h p _))).or (OptRel.ite (h _))
theorem OptRel.none_iff {a : Option α} {b : Option β} (h : OptRel Q a b) : a = none ↔ b = none := by
  cases a <;> cases b
  · exact ⟨fun _ => rfl, fun _ => rfl⟩
  · exact h.elim
  · exact h.elim
  · exact ⟨fun e => (by cases e), fun e => (by cases e)⟩
end
/-! Names. -/
/-- Is this a name of one of these? -/
def namedB (l : List Txt) (n : Txt) : Bool := l.any fun k => kindS k != 0 && k.drop 1 == n
theorem namedB_nil (n : Txt) : namedB [] n = false := rfl
theorem named_snoc (l : List Txt) (s n : Txt) : namedB (l ++ [s]) n = (namedB l n || (kindS s != 0 && s.drop 1 == n)) := by
  unfold namedB; rw [List.any_append]; simp
theorem named_lit {l : List Txt} {s : Txt} (h : kindS s = 0) (n : Txt) : namedB (l ++ [s]) n = namedB l n := by
  rw [named_snoc, h]; simp
theorem named_name {l : List Txt} {s : Txt} (h : kindS s ≠ 0) (n : Txt) : namedB (l ++ [s]) n = (if n = s.drop 1 then true else namedB l n) := by
  rw [named_snoc]
  have : (kindS s != 0) = true := bne_iff_ne.2 h
  rw [this, Bool.true_and]
  split
  · rename_i e; rw [e]; simp
  · rename_i e
    have : (s.drop 1 == n) = false := beq_eq_false_iff_ne.2 fun h => e h.symm
    rw [this, Bool.or_false]
theorem named_all (l : List Txt) (n : Txt) : (l.all fun k => kindS k == 0 || k.drop 1 != n) = !namedB l n := by
  unfold namedB
  induction l with
  | nil => rfl
  | cons k l ih =>
    rw [List.all_cons, List.any_cons, Bool.not_or, ih]
    congr 1
    show _ = !((!(kindS k == 0)) && (k.drop 1 == n))
    show ((kindS k == 0) || !(k.drop 1 == n)) = _
    generalize (kindS k == 0) = a
    generalize (k.drop 1 == n) = b
    cases a <;> cases b <;> rfl
theorem segsOk_end (l : List Txt) : segsOk l [] = true := rfl
theorem drop_at {l : List Txt} {i : Nat} {s : Txt} (h : l[i]? = some s) : l.drop i = s :: l.drop (i + 1) ∧ l.take (i + 1) = l.take i ++ [s] := by
  obtain ⟨hl, rfl⟩ := List.getElem?_eq_some_iff.1 h
  exact ⟨List.drop_eq_getElem_cons hl, by rw [List.take_add_one, List.getElem?_eq_getElem hl]; rfl⟩
/-- A round of Right: an empty segment. -/
theorem segs_empty {l : List Txt} {i : Nat} (h : l[i]? = some []) : segsOk (l.take i) (l.drop i) = false := by
  rw [(drop_at h).1, segsOk]; rfl
theorem segs_lit {l : List Txt} {i : Nat} {s : Txt} (h : l[i]? = some s) (hn : s ≠ []) (hk : kindS s = 0) : segsOk (l.take i) (l.drop i) = segsOk (l.take (i + 1)) (l.drop (i + 1)) := by
  rw [(drop_at h).1, (drop_at h).2, segsOk, hk]
  have : (s != []) = true := bne_iff_ne.2 hn
  rw [this]; rfl
theorem segs_name {l : List Txt} {i : Nat} {s : Txt} (h : l[i]? = some s) (hn : s ≠ []) (hk : kindS s ≠ 0) :
    segsOk (l.take i) (l.drop i) = (((nameS (s.drop 1) && (kindS s == 1 || decide (l.length ≤ i + 1))) && !namedB (l.take i) (s.drop 1)) && segsOk (l.take (i + 1)) (l.drop (i + 1))) := by
  rw [(drop_at h).1, (drop_at h).2, segsOk, named_all]
  have h1 : (s != []) = true := bne_iff_ne.2 hn
  have h2 : (kindS s == 0) = false := beq_eq_false_iff_ne.2 hk
  have h3 : (l.drop (i + 1)).isEmpty = decide (l.length ≤ i + 1) := by
    rw [Bool.eq_iff_iff, List.isEmpty_iff, List.drop_eq_nil_iff, decide_eq_true_eq]
  rw [h1, h2, h3, Bool.true_and, Bool.false_or]
  simp only [Bool.and_assoc]
/-! Segments. -/
theorem segsF_slash (r : Txt) : segsF (47 :: r) = if r = [] then some [] else if segsOk [] (cutP [] r) = true then some (cutP [] r) else none := by
  unfold segsF
  dsimp only
  rw [if_neg (fun h : (47 : UInt8) ≠ 47 => h rfl)]
/-- The segments of what begins as a pattern does. -/
def cutS (s : Txt) : List Txt := if s = [47] then [] else cutP [] (s.drop 1)
theorem segsF_cut {s : Txt} (h : s[0]? = some 47) : segsF s = if segsOk [] (cutS s) = true then some (cutS s) else none := by
  cases s with
  | nil => cases h
  | cons c r =>
    obtain rfl : c = 47 := by simpa using h
    rw [segsF_slash]
    unfold cutS
    by_cases hr : r = []
    · subst hr
      rw [if_pos rfl, if_pos rfl, segsOk_end, if_pos rfl]
    · have hn : ¬ (47 :: r = [47]) := fun e => hr (by simpa using e)
      rw [if_neg hr, if_neg hn]
      rfl
theorem segsF_head {s : Txt} {l : List Txt} (h : segsF s = some l) : s[0]? = some 47 ∧ l = cutS s ∧ segsOk [] l = true := by
  have h0 : s[0]? = some 47 := by
    unfold segsF at h
    cases s with
    | nil => cases h
    | cons c r =>
      dsimp only at h
      split at h
      · cases h
      · rename_i e; simp at e; rw [e]; rfl
  rw [segsF_cut h0] at h
  split at h
  · rename_i hk; cases h; exact ⟨h0, rfl, hk⟩
  · cases h
theorem segD_cut {s : Txt} (h : (segsF s).isSome = true) : segD s = cutS s := by
  unfold segD
  obtain ⟨l, hl⟩ := Option.isSome_iff_exists.1 h
  rw [hl, (segsF_head hl).2.1]; rfl
theorem cutP_len : ∀ (s cur : Txt), (cutP cur s).length ≤ s.length + 1
  | [], cur => by simp [cutP]
  | c :: r, cur => by
    rw [cutP]
    split
    · have := cutP_len r []
      simp only [List.length_cons]; omega
    · have := cutP_len r (cur ++ [c])
      simp only [List.length_cons]; omega
theorem cutP_each : ∀ (s cur : Txt), ∀ x ∈ cutP cur s, x.length ≤ cur.length + s.length
  | [], cur, x, h => by
    obtain rfl : x = cur := by simpa [cutP] using h
    omega
  | c :: r, cur, x, h => by
    rw [cutP] at h
    split at h
    · rcases List.mem_cons.1 h with rfl | h
      · omega
      · have := cutP_each r [] x h
        simp only [List.length_cons, List.length_nil] at *; omega
    · have := cutP_each r (cur ++ [c]) x h
      simp only [List.length_cons, List.length_append, List.length_nil] at *; omega
theorem cutS_len (s : Txt) : (cutS s).length ≤ s.length + 1 := by
  unfold cutS
  split
  · simp
  · have := cutP_len (s.drop 1) []
    have h2 : (s.drop 1).length ≤ s.length := by rw [List.length_drop]; omega
    omega
theorem cutS_each (s : Txt) : ∀ x ∈ cutS s, x.length ≤ s.length := by
  unfold cutS
  split
  · intro x h; cases h
  · intro x h
    have := cutP_each (s.drop 1) [] x h
    rw [List.length_drop, List.length_nil] at this; omega
/-! What is taken. -/
theorem fits_drop {l p : List Txt} {i : Nat} {s : Txt} (h : l[i]? = some s) (hf : fitsF (l.drop i) (p.drop i) = true) : ∃ x, p[i]? = some x ∧ (kindS s ≠ 2 → fitsF (l.drop (i + 1)) (p.drop (i + 1)) = true) := by
  rw [(drop_at h).1] at hf
  cases hp : p.drop i with
  | nil => rw [hp] at hf; cases hf
  | cons x r =>
    have hx : p[i]? = some x := by
      have := List.getElem?_drop (xs := p) (i := i) (j := 0)
      rw [hp] at this
      simpa using this.symm
    rw [hp, fitsF] at hf
    refine ⟨x, hx, fun hk => ?_⟩
    rw [if_neg hk, Bool.and_eq_true] at hf
    have := (drop_at hx).1
    rw [hp] at this
    injection this with _ h2
    rw [← h2]; exact hf.2
theorem params_at {l p : List Txt} {i : Nat} {s x : Txt} (h : l[i]? = some s) (hx : p[i]? = some x) :
    paramsF (l.drop i) (p.drop i) = if kindS s = 2 then [(s.drop 1, joinP x (p.drop (i + 1)))] else if kindS s = 1 then (s.drop 1, x) :: paramsF (l.drop (i + 1)) (p.drop (i + 1)) else paramsF (l.drop (i + 1)) (p.drop (i + 1)) := by
  rw [(drop_at h).1, (drop_at hx).1, paramsF]
theorem tidy_at : ∀ {l : List Txt} {i : Nat} {s : Txt}, Tidy l → l[i]? = some s → s ≠ [] ∧ (kindS s = 2 → l.length = i + 1)
  | [], i, s, _, h => by simp at h
  | t :: l, 0, s, ht, h => by
    obtain rfl : t = s := by simpa using h
    exact ⟨ht.1.1, fun hk => by rw [ht.1.2 hk]; rfl⟩
  | t :: l, i + 1, s, ht, h => by
    rw [List.getElem?_cons_succ] at h
    obtain ⟨h1, h2⟩ := tidy_at ht.2 h
    exact ⟨h1, fun hk => by rw [List.length_cons, h2 hk]⟩
theorem kind_head {s : Txt} {c : UInt8} {r : Txt} (h : s = c :: r) : kindS s = if c = 58 then 1 else if c = 42 then 2 else 0 := by subst h; rfl
theorem key_head (c : UInt8) (r : Txt) : keyS (c :: r) = if c = 58 then .par else if c = 42 then .rst else .lit (c :: r) := by
  unfold keyS
  rw [kind_head rfl]
  by_cases h1 : c = 58
  · rw [if_pos h1, if_pos h1]; rfl
  · rw [if_neg h1, if_neg h1]
    by_cases h2 : c = 42
    · rw [if_pos h2, if_pos h2]; rfl
    · rw [if_neg h2, if_neg h2, if_pos rfl]
end Go.Proofs.YtendejpkdjkmnaaGreatDoor
/- The nodes of a trie in memory: which block is the node at a row of keys, and what its cells are. -/
namespace Go.Proofs.YtendejpkdjkmnaaGreatDoor
open Go.RowKit

theorem kind_casesB (c : UInt8) : c = 58 ∨ (((c.toNat : Int) == 58) = false ∧ c = 42) ∨ (c ≠ 58 ∧ c ≠ 42 ∧ ((c.toNat : Int) == 58) = false ∧ ((c.toNat : Int) == 42) = false) := by
  have no : ∀ d : UInt8, c ≠ d → ((c.toNat : Int) == (d.toNat : Int)) = false := fun d h => by
    have h2 : c.toNat ≠ d.toNat := fun e => h (UInt8.toNat_inj.1 e)
    rw [beq_eq_false_iff_ne]; omega
  by_cases h1 : c = 58
  · exact .inl h1
  · by_cases h2 : c = 42
    · exact .inr (.inl ⟨no 58 h1, h2⟩)
    · exact .inr (.inr ⟨h1, h2, no 58 h1, no 42 h2⟩)
/-- What a block of a trie is. -/
inductive Role where
  | nd (k : List Key)
  | mp (k : List Key)
  | en
  | ar
/-- Where a node begins in its block: the first one stands in the trie's own. -/
def offK : List Key → Nat
  | [] => 1
  | _ :: _ => 0
theorem offK_snoc (k : List Key) (c : Key) : offK (k ++ [c]) = 0 := by cases k <;> rfl
def mapV : Option Nat → Value
  | none => .map none
  | some m => .map (some m)
theorem ptrO_one (o : Option Nat) : (ptrO o).oneCell' = true := by cases o <;> rfl
theorem mapV_one (o : Option Nat) : (mapV o).oneCell' = true := by cases o <;> rfl
/-- A node's map: none (nothing is below by a literal), or block m. -/
def MapAt (w : World) (C : Nat) (f : Txt → Option Nat) : Option Nat → Prop
  | none => ∀ s, f s = none
  | some m => PMap Tryz.prog 9 w m C f
theorem MapAt.same {w w' : World} {C C' : Nat} {f f' : Txt → Option Nat} {M : Option Nat} (h : MapAt w C f M) (hm : ∀ m, M = some m → w'.heap[m]? = w.heap[m]?) (hC : C ≤ C') (hf : ∀ s, f' s = f s) : MapAt w' C' f' M := by
  have e : f' = f := funext hf
  subst e
  cases M with
  | none => exact h
  | some m => exact (PMap.same h (hm m rfl)).mono hC
/-- A node's cells, from o on in block b: the map of its literals, the parameter, the rest, what ends here. -/
structure NodeAt (w : World) (b o : Nat) (N : List Key → Option Nat) (M E : Option Nat) (k : List Key) (C : Nat) : Prop where
  row : ∃ cs t, Row w b cs t ∧ cs[o]? = some (mapV M) ∧ cs[o + 1]? = some (ptrO (N (k ++ [.par]))) ∧ cs[o + 2]? = some (ptrO (N (k ++ [.rst]))) ∧ cs[o + 3]? = some (ptrO E)
  map : MapAt w C (fun s => N (k ++ [.lit s])) M
section
variable {w w' : World} {b o : Nat} {N : List Key → Option Nat} {M E : Option Nat} {k : List Key} {C : Nat}
theorem NodeAt.lits (h : NodeAt w b o N M E k C) : w.cell? ⟨b, o, none⟩ = some (mapV M) ∧ w.frozen? ⟨b, o, none⟩ = false := by
  obtain ⟨cs, t, hr, h0, _⟩ := h.row
  exact ⟨by rw [cell_of_row w b o cs t (0, 0) hr]; exact h0, hr.frozen o⟩
theorem NodeAt.par (h : NodeAt w b o N M E k C) : w.cell? ⟨b, o + 1, none⟩ = some (ptrO (N (k ++ [.par]))) ∧ w.frozen? ⟨b, o + 1, none⟩ = false := by
  obtain ⟨cs, t, hr, _, h0, _⟩ := h.row
  exact ⟨by rw [cell_of_row w b _ cs t (0, 0) hr]; exact h0, hr.frozen _⟩
theorem NodeAt.rst (h : NodeAt w b o N M E k C) : w.cell? ⟨b, o + 2, none⟩ = some (ptrO (N (k ++ [.rst]))) ∧ w.frozen? ⟨b, o + 2, none⟩ = false := by
  obtain ⟨cs, t, hr, _, _, h0, _⟩ := h.row
  exact ⟨by rw [cell_of_row w b _ cs t (0, 0) hr]; exact h0, hr.frozen _⟩
theorem NodeAt.fin (h : NodeAt w b o N M E k C) : w.cell? ⟨b, o + 3, none⟩ = some (ptrO E) ∧ w.frozen? ⟨b, o + 3, none⟩ = false := by
  obtain ⟨cs, t, hr, _, _, _, h0⟩ := h.row
  exact ⟨by rw [cell_of_row w b _ cs t (0, 0) hr]; exact h0, hr.frozen _⟩
theorem NodeAt.lt (h : NodeAt w b o N M E k C) : b < w.heap.size := by
  obtain ⟨cs, t, hr, _⟩ := h.row
  exact hr.lt
theorem NodeAt.same (h : NodeAt w b o N M E k C) (hb : w'.heap[b]? = w.heap[b]?) (hm : ∀ m, M = some m → w'.heap[m]? = w.heap[m]?) : NodeAt w' b o N M E k C := by
  refine ⟨?_, ?_⟩
  · obtain ⟨cs, t, hr, h1⟩ := h.row
    exact ⟨cs, t, by unfold Row; rw [hb]; exact hr, h1⟩
  · exact h.map.same hm (Nat.le_refl _) (fun _ => rfl)
/-- Which node is below, by another function that says the same here. -/
theorem NodeAt.to (h : NodeAt w b o N M E k C) {N' : List Key → Option Nat} (he : ∀ c, N' (k ++ [c]) = N (k ++ [c])) {C' : Nat} (hC : C ≤ C') : NodeAt w b o N' M E k C' := by
  refine ⟨?_, ?_⟩
  · rw [he, he]; exact h.row
  · exact h.map.same (fun _ _ => rfl) hC (fun s => he _)
/-- A literal below. -/
theorem NodeAt.look (h : NodeAt w b o N M E k C) {t e : TypeId} (ht : Tryz.prog.underlying t = some (.map 9 e)) (hz : ∀ w, (zeroValue e).run Tryz.prog w = .ok (.pointer none) w) {s : Txt} (hs : s.length ≤ 1000000) :
    (Instr.lookup t (mapV M) (S s) false).run Tryz.prog w = .ok (ptrO (N (k ++ [.lit s]))) w := by
  have h1 := h.map
  cases M with
  | none =>
    have h1 : N (k ++ [.lit s]) = none := h1 s
    rw [h1]
    exact nil_lookup Tryz.underlying9 ht hz hs w
  | some m => exact PMap.lookup Tryz.underlying9 ht hz h1 hs
end
/-- The nodes of the trie in block g. R: what each of its blocks is; N: the nodes; M: their maps; E: what ends there; C: no map has more; mx, av: what else the first block has. -/
structure Nodes (w : World) (g : Nat) (R : Nat → Option Role) (N M E : List Key → Option Nat) (C : Nat) (mx : Int) (av : Value) : Prop where
  top : ∃ cs t, Row w g cs t ∧ cs[0]? = some (.int .i64 mx) ∧ cs[5]? = some av
  root : N [] = some g
  pre : ∀ k c, N (k ++ [c]) ≠ none → N k ≠ none
  nR : ∀ k b, N k = some b → R b = some (.nd k)
  mR : ∀ k b, M k = some b → R b = some (.mp k) ∧ N k ≠ none
  eR : ∀ k b, E k = some b → R b = some .en ∧ N k ≠ none
  lt : ∀ b r, R b = some r → b < w.heap.size
  node : ∀ k b, N k = some b → NodeAt w b (offK k) N (M k) (E k) k C
section
variable {w w' : World} {g : Nat} {R R' : Nat → Option Role} {N M E : List Key → Option Nat} {C : Nat} {mx : Int} {av : Value}
theorem Nodes.rootR (h : Nodes w g R N M E C mx av) : R g = some (.nd []) := h.nR [] g h.root
theorem Nodes.same (h : Nodes w g R N M E C mx av) (hs : w.heap.size ≤ w'.heap.size) (hb : ∀ b, (∃ k, R b = some (.nd k) ∨ R b = some (.mp k)) → w'.heap[b]? = w.heap[b]?) : Nodes w' g R N M E C mx av :=
  { h with
    top := by
      obtain ⟨cs, t, hr, h1⟩ := h.top
      exact ⟨cs, t, by unfold Row; rw [hb g ⟨[], .inl h.rootR⟩]; exact hr, h1⟩
    lt := fun b r hr => Nat.lt_of_lt_of_le (h.lt b r hr) hs
    node := fun k b hk => (h.node k b hk).same (hb b ⟨k, .inl (h.nR k b hk)⟩) fun m hm => hb m ⟨k, .inr (h.mR k m hm).1⟩ }
theorem Nodes.below (h : Nodes w g R N M E C mx av) (hb : Below w.heap.size w w') : Nodes w' g R N M E C mx av :=
  h.same hb.size fun b ⟨_, hr⟩ => hb.block b (hr.elim (h.lt b _) (h.lt b _))
theorem Nodes.mono (h : Nodes w g R N M E C mx av) {C' : Nat} (hC : C ≤ C') : Nodes w g R N M E C' mx av :=
  { h with node := fun k b hk => (h.node k b hk).to (fun _ => rfl) hC }
theorem snoc_ne_nil {α : Type} (k : List α) (c : α) : k ++ [c] ≠ [] := by simp
theorem snoc_inj {α : Type} {k k' : List α} {c c' : α} (h : k ++ [c] = k' ++ [c']) : k = k' ∧ c = c' := by
  have := List.append_inj' h rfl
  exact ⟨this.1, by simpa using this.2⟩
theorem snoc_ne_self {α : Type} (k : List α) (c : α) : k ++ [c] ≠ k := fun h => by
  have := congrArg List.length h
  simp at this
/-- A trie whose blocks were R has R' now: but for nodes and maps nothing that there was has turned. -/
structure Grew (R R' : Nat → Option Role) (w w' : World) : Prop where
  os : w'.os = w.os
  tape : w'.tape = w.tape
  output : w'.output = w.output
  size : w.heap.size ≤ w'.heap.size
  keep : ∀ b r, R b = some r → R' b = some r
  new : ∀ b r, R' b = some r → R b = some r ∨ w.heap.size ≤ b
  rest : ∀ b, b < w.heap.size → (∀ k, R b ≠ some (.nd k) ∧ R b ≠ some (.mp k)) → w'.heap[b]? = w.heap[b]?
theorem Grew.refl (R : Nat → Option Role) (w : World) : Grew R R w w := ⟨rfl, rfl, rfl, Nat.le_refl _, fun _ _ h => h, fun _ _ h => .inl h, fun _ _ _ => rfl⟩
theorem Grew.of_below (R : Nat → Option Role) (h : Below w.heap.size w w') : Grew R R w w' := ⟨h.os, h.tape, h.output, h.size, fun _ _ h => h, fun _ _ h => .inl h, fun b hb _ => h.block b hb⟩
theorem Grew.trans {R'' : Nat → Option Role} {w'' : World} (h : Grew R R' w w') (k : Grew R' R'' w' w'') : Grew R R'' w w'' :=
  ⟨k.os.trans h.os, k.tape.trans h.tape, k.output.trans h.output, Nat.le_trans h.size k.size, fun b r hb => k.keep b r (h.keep b r hb), fun b r hb => by
    rcases k.new b r hb with h1 | h1
    · exact h.new b r h1
    · have := h.size; exact .inr (by omega),
  fun b hb hr => by
    refine (k.rest b (Nat.lt_of_lt_of_le hb h.size) fun k' => ?_).trans (h.rest b hb hr)
    have no : ∀ r, R' b = some r → R b = some r := fun r e => (h.new b r e).resolve_right (by omega)
    exact ⟨fun e => (hr k').1 (no _ e), fun e => (hr k').2 (no _ e)⟩⟩
/-- One more node. -/
theorem Nodes.grow (h : Nodes w g R N M E C mx av) {k : List Key} {b : Nat} (hk : N k = some b) {c : Key} (hc : N (k ++ [c]) = none) (nb : Nat) (M1 : Option Nat) {t : TypeId}
    (hrow : Row w' nb #[.map none, .pointer none, .pointer none, .pointer none] t)
    (hR : ∀ b r, R b = some r → R' b = some r) (hR1 : R' nb = some (.nd (k ++ [c]))) (hRlt : ∀ b r, R' b = some r → b < w'.heap.size) (hM1 : ∀ m, M1 = some m → R' m = some (.mp k))
    (hrest : ∀ b' r, R b' = some r → r ≠ .nd k → r ≠ .mp k → w'.heap[b']? = w.heap[b']?)
    (hnode : NodeAt w' b (offK k) (fun k' => if k' = k ++ [c] then some nb else N k') M1 (E k) k (C + 1))
    (htop : k = [] → ∃ cs t, Row w' g cs t ∧ cs[0]? = some (.int .i64 mx) ∧ cs[5]? = some av) :
    Nodes w' g R' (fun k' => if k' = k ++ [c] then some nb else N k') (fun k' => if k' = k then M1 else M k') E (C + 1) mx av := by
  have hnone : ∀ x, N (k ++ [c] ++ [x]) = none := fun x => by
    cases hx : N (k ++ [c] ++ [x]) with
    | none => rfl
    | some y => exact absurd hc (h.pre _ x (by rw [hx]; exact Option.some_ne_none _))
  have hMn : M (k ++ [c]) = none := by
    cases hx : M (k ++ [c]) with
    | none => rfl
    | some y => exact absurd hc (h.mR _ y hx).2
  have hEn : E (k ++ [c]) = none := by
    cases hx : E (k ++ [c]) with
    | none => rfl
    | some y => exact absurd hc (h.eR _ y hx).2
  refine ⟨?_, ?_, ?_, ?_, ?_, ?_, hRlt, ?_⟩
  · by_cases e : k = []
    · exact htop e
    · obtain ⟨cs, t, hr, h1⟩ := h.top
      refine ⟨cs, t, ?_, h1⟩
      unfold Row
      rw [hrest g _ h.rootR (fun e' => e (by injection e' with e'; exact e'.symm)) (fun e' => by cases e')]
      exact hr
  · rw [if_neg (fun e => snoc_ne_nil k c e.symm)]; exact h.root
  · intro k' x
    by_cases e1 : k' = k ++ [c]
    · rw [if_pos e1]; intro _ e; cases e
    · rw [if_neg e1]
      by_cases e2 : k' ++ [x] = k ++ [c]
      · obtain ⟨rfl, _⟩ := snoc_inj e2
        intro _; rw [hk]; exact Option.some_ne_none _
      · rw [if_neg e2]; exact h.pre k' x
  · intro k' b' hb'
    by_cases e1 : k' = k ++ [c]
    · rw [if_pos e1] at hb'
      cases hb'
      rw [e1]; exact hR1
    · rw [if_neg e1] at hb'
      exact hR _ _ (h.nR k' b' hb')
  · intro k' m hm
    have hsome : N k' ≠ none → (if k' = k ++ [c] then some nb else N k') ≠ none := fun hn => by
      split
      · exact Option.some_ne_none _
      · exact hn
    by_cases e1 : k' = k
    · rw [if_pos e1] at hm
      have h2 := hsome (by rw [e1, hk]; exact Option.some_ne_none _)
      rw [e1] at h2 ⊢
      exact ⟨hM1 m hm, h2⟩
    · rw [if_neg e1] at hm
      exact ⟨hR _ _ (h.mR k' m hm).1, hsome (h.mR k' m hm).2⟩
  · intro k' m hm
    refine ⟨hR _ _ (h.eR k' m hm).1, ?_⟩
    split
    · exact Option.some_ne_none _
    · exact (h.eR k' m hm).2
  · intro k' b' hb'
    by_cases e1 : k' = k ++ [c]
    · rw [if_pos e1] at hb'
      cases hb'
      subst e1
      rw [if_neg (snoc_ne_self k c), hMn, hEn, offK_snoc]
      refine ⟨⟨_, t, hrow, rfl, ?_, ?_, rfl⟩, ?_⟩
      · rw [if_neg (snoc_ne_self _ _), hnone]; rfl
      · rw [if_neg (snoc_ne_self _ _), hnone]; rfl
      · intro s
        show (if k ++ [c] ++ [.lit s] = k ++ [c] then some nb else N (k ++ [c] ++ [.lit s])) = none
        rw [if_neg (snoc_ne_self _ _), hnone]
    · rw [if_neg e1] at hb'
      by_cases e2 : k' = k
      · subst e2
        rw [hk] at hb'
        cases hb'
        rw [if_pos rfl]
        exact hnode
      · rw [if_neg e2]
        have h1 := h.node k' b' hb'
        refine (h1.same (hrest b' _ (h.nR k' b' hb') (fun e => e2 (by injection e)) (fun e => by cases e)) fun m hm => hrest m _ (h.mR k' m hm).1 (fun e => by cases e) (fun e => e2 (by injection e))).to (fun x => ?_) (Nat.le_succ C)
        rw [if_neg (fun e => e2 (snoc_inj e).1)]
theorem set_far {cs : Array Value} {i j : Nat} {a v : Value} (h : cs[j]? = some a) (hij : i ≠ j) : (cs.setIfInBounds i v)[j]? = some a := by
  rw [Array.getElem?_setIfInBounds_ne hij]; exact h
theorem set_at {cs : Array Value} {i : Nat} {a v : Value} (h : cs[i]? = some a) : (cs.setIfInBounds i v)[i]? = some v := by
  have := (Array.getElem?_eq_some_iff.1 h).1
  simp [this]
/-- What there is behind grow: at c below k is block b'. -/
def Grown (w : World) (g : Nat) (R : Nat → Option Role) (N E : List Key → Option Nat) (C : Nat) (mx : Int) (av : Value) (k : List Key) (c : Key) (b' : Nat) (w' : World) : Prop :=
  ∃ R' N' M', Nodes w' g R' N' M' E (C + 1) mx av ∧ (∀ k', N' k' = if k' = k ++ [c] then some b' else N k') ∧ Grew R R' w w'
theorem Grown.there (h : Nodes w g R N M E C mx av) {k : List Key} {c : Key} {b' : Nat} (hc : N (k ++ [c]) = some b') : Grown w g R N E C mx av k c b' w :=
  ⟨R, N, M, h.mono (Nat.le_succ C), fun k' => by
    split
    · rename_i e; rw [e]; exact hc
    · rfl, Grew.refl R w⟩
/-- Cells of a node, one of which is turned. -/
theorem set4 {cs : Array Value} {o : Nat} {a0 a1 a2 a3 : Value} (h : cs[o]? = some a0 ∧ cs[o + 1]? = some a1 ∧ cs[o + 2]? = some a2 ∧ cs[o + 3]? = some a3) (v : Value) :
    ((cs.setIfInBounds o v)[o]? = some v ∧ (cs.setIfInBounds o v)[o + 1]? = some a1 ∧ (cs.setIfInBounds o v)[o + 2]? = some a2 ∧ (cs.setIfInBounds o v)[o + 3]? = some a3) ∧
    ((cs.setIfInBounds (o + 1) v)[o]? = some a0 ∧ (cs.setIfInBounds (o + 1) v)[o + 1]? = some v ∧ (cs.setIfInBounds (o + 1) v)[o + 2]? = some a2 ∧ (cs.setIfInBounds (o + 1) v)[o + 3]? = some a3) ∧
    ((cs.setIfInBounds (o + 2) v)[o]? = some a0 ∧ (cs.setIfInBounds (o + 2) v)[o + 1]? = some a1 ∧ (cs.setIfInBounds (o + 2) v)[o + 2]? = some v ∧ (cs.setIfInBounds (o + 2) v)[o + 3]? = some a3) ∧
    ((cs.setIfInBounds (o + 3) v)[o]? = some a0 ∧ (cs.setIfInBounds (o + 3) v)[o + 1]? = some a1 ∧ (cs.setIfInBounds (o + 3) v)[o + 2]? = some a2 ∧ (cs.setIfInBounds (o + 3) v)[o + 3]? = some v) := by
  obtain ⟨h0, h1, h2, h3⟩ := h
  refine ⟨⟨?_, ?_, ?_, ?_⟩, ⟨?_, ?_, ?_, ?_⟩, ⟨?_, ?_, ?_, ?_⟩, ⟨?_, ?_, ?_, ?_⟩⟩ <;> first | exact set_at (by assumption) | exact set_far (by assumption) (by omega)
/-- The row that a node stands in. -/
theorem Nodes.rowOf (h : Nodes w g R N M E C mx av) {k : List Key} {b : Nat} (hk : N k = some b) : ∃ cs t, Row w b cs t ∧
    (cs[offK k]? = some (mapV (M k)) ∧ cs[offK k + 1]? = some (ptrO (N (k ++ [.par]))) ∧ cs[offK k + 2]? = some (ptrO (N (k ++ [.rst]))) ∧ cs[offK k + 3]? = some (ptrO (E k))) ∧ (k = [] → b = g ∧ cs[0]? = some (.int .i64 mx) ∧ cs[5]? = some av) := by
  obtain ⟨cs, t, hr, h4⟩ := (h.node k b hk).row
  refine ⟨cs, t, hr, h4, fun e => ?_⟩
  subst e
  have hb : b = g := Option.some.inj (hk.symm.trans h.root)
  subst hb
  obtain ⟨cs', t', hr', h1⟩ := h.top
  have : cs' = cs := by
    unfold Row at hr hr'
    rw [hr] at hr'
    injection hr' with e
    injection e with e
    exact e.symm
  subst this
  exact ⟨rfl, h1⟩
/-- A trie behind grow, by what has turned. -/
theorem Grown.of (h : Nodes w g R N M E C mx av) {k : List Key} {b : Nat} (hk : N k = some b) {c : Key} (hc : N (k ++ [c]) = none) {t : TypeId} {m1 : Option Nat} (hos : w'.os = w.os) (htape : w'.tape = w.tape) (hout : w'.output = w.output) (hsize : w.heap.size < w'.heap.size)
    (hrow : Row w' w.heap.size #[.map none, .pointer none, .pointer none, .pointer none] t) (hrest : ∀ x, x < w.heap.size → x ≠ b → M k ≠ some x → w'.heap[x]? = w.heap[x]?)
    (hm : m1 = M k ∨ (M k = none ∧ ∃ m, m1 = some m ∧ w.heap.size < m ∧ m < w'.heap.size))
    (hnode : NodeAt w' b (offK k) (fun k' => if k' = k ++ [c] then some w.heap.size else N k') m1 (E k) k (C + 1))
    (htop : k = [] → ∃ cs t, Row w' g cs t ∧ cs[0]? = some (.int .i64 mx) ∧ cs[5]? = some av) : Grown w g R N E C mx av k c w.heap.size w' := by
  have hRb := h.nR k b hk
  refine ⟨fun x => if x = w.heap.size then some (.nd (k ++ [c])) else if w.heap.size < x ∧ m1 = some x then some (.mp k) else R x, fun k' => if k' = k ++ [c] then some w.heap.size else N k', fun k' => if k' = k then m1 else M k', ?_, fun k' => rfl, hos, htape, hout, Nat.le_of_lt hsize, ?_, ?_, ?_⟩
  · refine h.grow hk hc w.heap.size m1 hrow (fun x r hx => ?_) (by rw [if_pos rfl]) (fun x r hx => ?_) (fun m e => ?_) (fun x r hx h1 h2 => ?_) hnode htop
    · have := h.lt x r hx
      rw [if_neg (by omega), if_neg (by omega)]; exact hx
    · split at hx
      · omega
      · split at hx
        · rename_i h1
          rcases hm with e | ⟨_, m, e, _, h2⟩
          · rw [e] at h1
            have := h.lt x _ (h.mR k x h1.2).1
            omega
          · rw [h1.2] at e
            cases e
            exact h2
        · have := h.lt x r hx; omega
    · rcases hm with e' | ⟨_, m', e', h1, h2⟩
      · have h1 := (h.mR k m (by rw [← e']; exact e)).1
        have := h.lt m _ h1
        rw [if_neg (by omega), if_neg (by omega)]; exact h1
      · rw [e] at e'
        cases e'
        rw [if_neg (by omega), if_pos ⟨h1, e⟩]
    · refine hrest x (h.lt x r hx) (fun e => h1 ?_) fun e => h2 ?_
      · rw [e, hRb] at hx; exact (Option.some.inj hx).symm
      · rw [(h.mR k x e).1] at hx; exact (Option.some.inj hx).symm
  · intro x r hx
    have := h.lt x r hx
    rw [if_neg (by omega), if_neg (by omega)]; exact hx
  · intro x r hx
    split at hx
    · right; omega
    · split at hx
      · right; omega
      · exact .inl hx
  · intro x hx hr
    refine hrest x hx (fun e => (hr k).1 (by rw [e]; exact hRb)) fun e => (hr k).2 (h.mR k x e).1
/-- A parameter or the rest is put below. -/
theorem Grown.cell (h : Nodes w g R N M E C mx av) {k : List Key} {b : Nat} (hk : N k = some b) {c : Key} (hc : N (k ++ [c]) = none) (t : TypeId) (j : Nat) (hj : (c = .par ∧ j = 1) ∨ (c = .rst ∧ j = 2)) :
    Grown w g R N E C mx av k c w.heap.size ((w.alloc (.cells #[.map none, .pointer none, .pointer none, .pointer none] t)).setCell ⟨b, offK k + j, none⟩ (.pointer (some ⟨w.heap.size, 0, none⟩))) := by
  obtain ⟨cs, ty, hr, h4, htop⟩ := h.rowOf hk
  have hb := hr.lt
  have hr2 := (hr.alloc (.cells #[.map none, .pointer none, .pointer none, .pointer none] t)).set (offK k + j) (.pointer (some ⟨w.heap.size, 0, none⟩))
  have hkeep := Keeps.setCell (b := b) (w.alloc (.cells #[.map none, .pointer none, .pointer none, .pointer none] t)) (offK k + j) (.pointer (some ⟨w.heap.size, 0, none⟩))
  have hnew := (row_new w #[.map none, .pointer none, .pointer none, .pointer none] t).keeps hkeep (by omega)
  have hrest : ∀ x, x < w.heap.size → x ≠ b → ((w.alloc (.cells #[.map none, .pointer none, .pointer none, .pointer none] t)).setCell ⟨b, offK k + j, none⟩ (.pointer (some ⟨w.heap.size, 0, none⟩))).heap[x]? = w.heap[x]? := fun x hx hn =>
    (hkeep.block x (by rw [alloc_size]; omega) hn).trans (heap_alloc_old w _ hx)
  refine Grown.of h hk hc (hkeep.os) (hkeep.tape) (hkeep.output) (by have := hkeep.size; rw [alloc_size] at this; omega) hnew (fun x hx h1 _ => hrest x hx h1) (.inl rfl) ⟨⟨_, ty, hr2, ?_⟩, ?_⟩ fun e => ?_
  · obtain ⟨-, s1, s2, -⟩ := set4 h4 (.pointer (some ⟨w.heap.size, 0, none⟩))
    rcases hj with ⟨rfl, rfl⟩ | ⟨rfl, rfl⟩
    · rw [if_pos rfl, if_neg (fun e => by cases (snoc_inj e).2)]; exact s1
    · rw [if_pos rfl, if_neg (fun e => by cases (snoc_inj e).2)]; exact s2
  · have hm := (h.node k b hk).map
    have hcl : ∀ s, k ++ [.lit s] ≠ k ++ [c] := fun s e => by
      have := (snoc_inj e).2
      rcases hj with ⟨rfl, _⟩ | ⟨rfl, _⟩ <;> cases this
    refine hm.same (fun m hM => ?_) (Nat.le_succ C) (fun s => if_neg (hcl s))
    have hmm := h.mR k m hM
    exact hrest m (h.lt m _ hmm.1) fun e => by
      have := hmm.1
      rw [e, h.nR k b hk] at this
      cases this
  · obtain ⟨rfl, h0, h5⟩ := htop e
    have ho : offK k = 1 := by rw [e]; rfl
    exact ⟨_, ty, hr2, set_far h0 (by omega), set_far h5 (by rcases hj with ⟨_, rfl⟩ | ⟨_, rfl⟩ <;> omega)⟩
/-- A literal is put below, into a map that there was (mb none) or a new one. -/
theorem Grown.lit (h : Nodes w g R N M E C mx av) {k : List Key} {b : Nat} (hk : N k = some b) {s : Txt} (hc : N (k ++ [.lit s]) = none) (t : TypeId) (m : Nat) (W : World) (hm : M k = some m ∧ W = w.alloc (.cells #[.map none, .pointer none, .pointer none, .pointer none] t) ∨
      M k = none ∧ m = w.heap.size + 1 ∧ W = ((w.alloc (.cells #[.map none, .pointer none, .pointer none, .pointer none] t)).alloc (.map #[] 0)).setCell ⟨b, offK k, none⟩ (.map (some m)))
    (hp : PMap Tryz.prog 9 w' m (C + 1) (updF (fun s => N (k ++ [.lit s])) s w.heap.size)) (hg : W.grownBy w' (some m)) : Grown w g R N E C mx av k (.lit s) w.heap.size w' := by
  obtain ⟨cs, ty, hr, h4, htop⟩ := h.rowOf hk
  have hb := hr.lt
  have hf : (fun x => (if k ++ [.lit x] = k ++ [.lit s] then some w.heap.size else N (k ++ [.lit x]))) = updF (fun s => N (k ++ [.lit s])) s w.heap.size := funext fun x => by
    unfold updF
    by_cases e : x = s
    · rw [if_pos e, if_pos (by rw [e])]
    · rw [if_neg e, if_neg (fun e' => e (by have := (snoc_inj e').2; injection this))]
  have hcell : ∀ c, (∀ x, c ≠ .lit x) → (if k ++ [c] = k ++ [.lit s] then some w.heap.size else N (k ++ [c])) = N (k ++ [c]) := fun c hc => if_neg fun e => hc s (snoc_inj e).2
  rcases hm with ⟨hM, rfl⟩ | ⟨hM, rfl, rfl⟩
  · have hmm := h.mR k m hM
    have hml := h.lt m _ hmm.1
    have hne : m ≠ b := fun e => by
      have := hmm.1
      rw [e, h.nR k b hk] at this
      cases this
    have hrest : ∀ x, x < w.heap.size → x ≠ m → w'.heap[x]? = w.heap[x]? := fun x hx hn => (hg.block x (by rw [alloc_size]; omega) (fun e => hn (Option.some.inj e))).trans (heap_alloc_old w _ hx)
    have hrb : Row w' b cs ty := by unfold Row; rw [hrest b hb (Ne.symm hne)]; exact hr
    refine Grown.of h hk hc hg.os hg.tape hg.output (by have := hg.size; rw [alloc_size] at this; omega) (row_grown (row_new w _ t) hg (fun e => by have := Option.some.inj e; omega)) (fun x hx _ h2 => hrest x hx fun e => h2 (by rw [e]; exact hM)) (.inl rfl) ⟨⟨cs, ty, hrb, ?_⟩, ?_⟩ fun e => ?_
    · rw [hcell _ (fun x e => by cases e), hcell _ (fun x e => by cases e)]; exact h4
    · rw [hM]
      show PMap Tryz.prog 9 w' m (C + 1) (fun x => (if k ++ [.lit x] = k ++ [.lit s] then some w.heap.size else N (k ++ [.lit x])))
      rw [hf]; exact hp
    · obtain ⟨rfl, h0, h5⟩ := htop e
      exact ⟨cs, ty, hrb, h0, h5⟩
  · have hr2 := (((hr.alloc (.cells #[.map none, .pointer none, .pointer none, .pointer none] t)).alloc (.map #[] 0)).set (offK k) (.map (some (w.heap.size + 1))))
    have hkeep := Keeps.setCell (b := b) ((w.alloc (.cells #[.map none, .pointer none, .pointer none, .pointer none] t)).alloc (.map #[] 0)) (offK k) (.map (some (w.heap.size + 1)))
    have hsz : ((w.alloc (.cells #[.map none, .pointer none, .pointer none, .pointer none] t)).alloc (.map #[] 0)).heap.size = w.heap.size + 2 := by rw [alloc_size, alloc_size]
    have hks := hkeep.size
    rw [hsz] at hks
    have hgs := hg.size
    have hold : ∀ x, x < w.heap.size → x ≠ b → w'.heap[x]? = w.heap[x]? := fun x hx hn =>
      (((hg.block x (by omega) (fun e => by have := Option.some.inj e; omega)).trans (hkeep.block x (by omega) hn)).trans (heap_alloc_old _ _ (by rw [alloc_size]; omega))).trans (heap_alloc_old w _ hx)
    have hrb := row_grown hr2 hg (fun e => by have := Option.some.inj e; omega)
    have hnew := row_grown (((row_new w #[.map none, .pointer none, .pointer none, .pointer none] t).alloc (.map #[] 0)).keeps hkeep (by omega)) hg (fun e => by have := Option.some.inj e; omega)
    refine Grown.of h hk hc (hg.os.trans hkeep.os) (hg.tape.trans hkeep.tape) (hg.output.trans hkeep.output) (by omega) hnew (fun x hx h1 _ => hold x hx h1) (.inr ⟨hM, w.heap.size + 1, rfl, by omega, PMap.lt hp⟩) ⟨⟨_, ty, hrb, ?_⟩, ?_⟩ fun e => ?_
    · rw [hcell _ (fun x e => by cases e), hcell _ (fun x e => by cases e)]
      exact (set4 h4 (.map (some (w.heap.size + 1)))).1
    · show PMap Tryz.prog 9 w' (w.heap.size + 1) (C + 1) (fun x => (if k ++ [.lit x] = k ++ [.lit s] then some w.heap.size else N (k ++ [.lit x])))
      rw [hf]; exact hp
    · obtain ⟨rfl, h0, h5⟩ := htop e
      have ho : offK k = 1 := by rw [e]; rfl
      exact ⟨_, ty, hrb, set_far h0 (by omega), set_far h5 (by omega)⟩
end
end Go.Proofs.YtendejpkdjkmnaaGreatDoor
/- Bytes compared with numbers. -/
namespace Go.Proofs.YtendejpkdjkmnaaGreatDoor
open Go.RowKit

theorem B_geq (t : TypeId) (x : UInt8) (k : Int) : binOp .geq t (B x) (.int .u8 k) = pure (.bool (decide (k ≤ (x.toNat : Int)))) := rfl
theorem B_leq (t : TypeId) (x : UInt8) (k : Int) : binOp .leq t (B x) (.int .u8 k) = pure (.bool (decide ((x.toNat : Int) ≤ k))) := rfl
theorem B_add32 (t : TypeId) (x : UInt8) (h : x.toNat ≤ 90) : binOp .add t (B x) (.int .u8 32) = pure (B (x + 32)) := by
  have e : ((x + 32).toNat : Int) = (x.toNat : Int) + 32 := by rw [UInt8.toNat_add]; show (((x.toNat + 32) % 256 : Nat) : Int) = _; omega
  have hw : IntKind.u8.wrap ((x.toNat : Int) + 32) = (x.toNat : Int) + 32 := by rw [IntKind.wrap_u8]; omega
  simp only [B, e]
  show pure (Value.int .u8 (IntKind.u8.wrap ((x.toNat : Int) + 32))) = _
  rw [hw]
theorem neqN (x y : UInt8) : ((x.toNat : Int) != (y.toNat : Int)) = !(x == y) := by
  rw [bne, beqB]
theorem eguard_BN (o1 o2 : Operand) (x : UInt8) (k : Int) : eqGuard .eql 5 o1 o2 (B x) (.int .u8 k) = pure () := rfl
theorem nguard_BN (o1 o2 : Operand) (x : UInt8) (k : Int) : eqGuard .neq 5 o1 o2 (B x) (.int .u8 k) = pure () := rfl
theorem B_neqN (t : TypeId) (x : UInt8) (k : Int) : binOp .neq t (B x) (.int .u8 k) = pure (.bool ((x.toNat : Int) != k)) := rfl
theorem B_eqlN (t : TypeId) (x : UInt8) (k : Int) : binOp .eql t (B x) (.int .u8 k) = pure (.bool ((x.toNat : Int) == k)) := rfl
theorem bad_facts (c : UInt8) : (badB c = false ∧ ((c.toNat : Int) != 9) = false ∧ (c.toNat != 9) = false) ∨
    (badB c = true ∧ ((c.toNat : Int) != 9) = true ∧ (c.toNat != 9) = true ∧ decide ((c.toNat : Int) < 32) = true ∧ decide (c.toNat < 32) = true) ∨
    (badB c = true ∧ ((c.toNat : Int) != 9) = true ∧ (c.toNat != 9) = true ∧ decide ((c.toNat : Int) < 32) = false ∧ decide (c.toNat < 32) = false ∧ ((c.toNat : Int) == 127) = true ∧ (c.toNat == 127) = true) ∨
    (badB c = false ∧ ((c.toNat : Int) != 9) = true ∧ (c.toNat != 9) = true ∧ decide ((c.toNat : Int) < 32) = false ∧ decide (c.toNat < 32) = false ∧ ((c.toNat : Int) == 127) = false ∧ (c.toNat == 127) = false) := by
  have e9 : ((c.toNat : Int) != 9) = (c.toNat != 9) := by rw [Bool.eq_iff_iff, bne_iff_ne, bne_iff_ne]; omega
  have e32 : decide ((c.toNat : Int) < 32) = decide (c.toNat < 32) := by rw [Bool.eq_iff_iff, decide_eq_true_iff, decide_eq_true_iff]; omega
  have e127 : ((c.toNat : Int) == 127) = (c.toNat == 127) := by rw [Bool.eq_iff_iff, beq_iff_eq, beq_iff_eq]; omega
  unfold badB
  rw [e9, e32, e127]
  cases h9 : c.toNat != 9 <;> cases h32 : decide (c.toNat < 32) <;> cases h127 : c.toNat == 127 <;> simp
theorem colon_facts (c : UInt8) : (c = 58 ∧ ((c.toNat : Int) != 58) = false ∧ (c.toNat != 58) = false) ∨ (c ≠ 58 ∧ ((c.toNat : Int) != 58) = true ∧ (c.toNat != 58) = true) := by
  by_cases h : c = 58
  · subst h; exact .inl ⟨rfl, rfl, rfl⟩
  · have h2 : c.toNat ≠ 58 := fun e => h (UInt8.toNat_inj.1 (by rw [e]; rfl))
    exact .inr ⟨h, by rw [bne_iff_ne]; omega, by rw [bne_iff_ne]; exact h2⟩
theorem blank_facts (c : UInt8) : (blankB c = true ∧ ((c.toNat : Int) == 9) = true ∧ (c.toNat == 9) = true) ∨ (blankB c = true ∧ ((c.toNat : Int) == 9) = false ∧ (c.toNat == 9) = false ∧ ((c.toNat : Int) == 32) = true ∧ (c.toNat == 32) = true) ∨
    (blankB c = false ∧ ((c.toNat : Int) == 9) = false ∧ (c.toNat == 9) = false ∧ ((c.toNat : Int) == 32) = false ∧ (c.toNat == 32) = false) := by
  unfold blankB
  have e9 : ((c.toNat : Int) == 9) = (c.toNat == 9) := by rw [Bool.eq_iff_iff, beq_iff_eq, beq_iff_eq]; omega
  have e32 : ((c.toNat : Int) == 32) = (c.toNat == 32) := by rw [Bool.eq_iff_iff, beq_iff_eq, beq_iff_eq]; omega
  rw [e9, e32]
  cases h9 : c.toNat == 9 <;> cases h32 : c.toNat == 32 <;> simp
theorem comma_facts (c : UInt8) : (c = 44 ∧ ((c.toNat : Int) == 44) = true ∧ (c.toNat == 44) = true) ∨ (c ≠ 44 ∧ ((c.toNat : Int) == 44) = false ∧ (c.toNat == 44) = false) := by
  by_cases h : c = 44
  · subst h; exact .inl ⟨rfl, rfl, rfl⟩
  · have h2 : c.toNat ≠ 44 := fun e => h (UInt8.toNat_inj.1 (by rw [e]; rfl))
    exact .inr ⟨h, by rw [beq_eq_false_iff_ne]; omega, by rw [beq_eq_false_iff_ne]; exact h2⟩
theorem B_sub65 (t : TypeId) (x : UInt8) (h : 65 ≤ x.toNat) : binOp .sub t (B x) (.int .u8 65) = pure (.int .u8 ((x.toNat : Int) - 65)) := by
  have := x.toNat_lt
  have hw : IntKind.u8.wrap ((x.toNat : Int) - 65) = (x.toNat : Int) - 65 := by rw [IntKind.wrap_u8]; omega
  simp only [B]
  show pure (Value.int .u8 (IntKind.u8.wrap ((x.toNat : Int) - 65))) = _
  rw [hw]
theorem add97 (t : TypeId) (x : UInt8) (h : 65 ≤ x.toNat) (h2 : x.toNat ≤ 90) : binOp .add t (.int .u8 ((x.toNat : Int) - 65)) (.int .u8 97) = pure (B (x + 32)) := by
  have e : ((x + 32).toNat : Int) = (x.toNat : Int) + 32 := by rw [UInt8.toNat_add]; show (((x.toNat + 32) % 256 : Nat) : Int) = _; omega
  have hw : IntKind.u8.wrap ((x.toNat : Int) - 65 + 97) = (x.toNat : Int) + 32 := by rw [IntKind.wrap_u8]; omega
  simp only [B, e]
  show pure (Value.int .u8 (IntKind.u8.wrap ((x.toNat : Int) - 65 + 97))) = _
  rw [hw]
end Go.Proofs.YtendejpkdjkmnaaGreatDoor
/- The landed below of tries of crier/router.methodss walked. -/
namespace Go.Proofs.YtendejpkdjkmnaaGreatDoor
open Go.RowKit
attribute [local go_sem] store_one S_match S_store eguard_BN nguard_BN B_eqlN B_neqN

theorem zeroNm : ∀ w, (zeroValue 73).run Tryz.prog w = .ok (.pointer none) w := (zero_of_info (n := 1) (by kernel_rfl)).1
set_option maxRecDepth 100000 in
set_option maxHeartbeats 1000000 in
theorem belowm_any {w : World} {b o : Nat} {N : List Key → Option Nat} {M E : Option Nat} {k : List Key} {C : Nat} (h : NodeAt w b o N M E k C) (s : Txt) (hs : s ≠ []) (hl : s.length ≤ 1000000) :
    Calls Tryz.prog 87 #[.pointer (some ⟨b, o, none⟩), S s] w fun e w' => e = .returned (ptrO (N (k ++ [keyS s]))) ∧ w' = w := by
  obtain ⟨c, r, rfl⟩ : ∃ c r, s = c :: r := by
    cases s with
    | nil => exact absurd rfl hs
    | cons c r => exact ⟨c, r, rfl⟩
  have hix : ∀ w, (Instr.index 9 (S (c :: r)) (.int .i64 0)).run Tryz.prog w = .ok (B c) w := fun w => index_S Tryz.underlying9 (c :: r) 0 c rfl w
  have hpar := h.par.1
  have hrst := h.rst.1
  have hlit := h.lits.1
  have hlk := h.look Tryz.underlying72 zeroNm hl
  rw [key_head]
  generalize S (c :: r) = V at *
  clear h hs hl
  by_cases h1 : c = 58
  · subst h1
    rw [if_pos rfl]
    generalize ptrO (N (k ++ [.par])) = v at *
    go_enter Tryz.func87, Tryz.ntmps87
    go_wp2
    go_ret
    exact ⟨rfl, rfl⟩
  · rw [if_neg h1]
    have g1 : ((c.toNat : Int) == 58) = false := by
      have h2 : c.toNat ≠ 58 := fun e => h1 (UInt8.toNat_inj.1 (by rw [e]; rfl))
      rw [beq_eq_false_iff_ne]; omega
    by_cases h2 : c = 42
    · subst h2
      rw [if_pos rfl]
      generalize ptrO (N (k ++ [.rst])) = v at *
      go_enter Tryz.func87, Tryz.ntmps87
      go_wp2
      go_ret
      exact ⟨rfl, rfl⟩
    · rw [if_neg h2]
      have g2 : ((c.toNat : Int) == 42) = false := by
        have h3 : c.toNat ≠ 42 := fun e => h2 (UInt8.toNat_inj.1 (by rw [e]; rfl))
        rw [beq_eq_false_iff_ne]; omega
      generalize ptrO (N (k ++ [.lit (c :: r)])) = v at *
      generalize mapV M = mv at *
      clear h1 h2
      go_enter Tryz.func87, Tryz.ntmps87
      go_wp2
      go_ret
      exact ⟨rfl, rfl⟩
end Go.Proofs.YtendejpkdjkmnaaGreatDoor
/- The landed grow of tries of crier/router.methodss walked. -/
namespace Go.Proofs.YtendejpkdjkmnaaGreatDoor
open Go.RowKit
attribute [local go_sem] store_one S_match S_store eguard_BN nguard_BN B_eqlN B_neqN

theorem nilMm (w : World) : (binOp .eql 72 (.map none) (.map none)).run Tryz.prog w = .ok (.bool true) w := by kernel_rfl
theorem someMm (m : Nat) (w : World) : (binOp .eql 72 (.map (some m)) (.map none)).run Tryz.prog w = .ok (.bool false) w := by kernel_rfl
set_option maxRecDepth 100000 in
set_option maxHeartbeats 1000000 in
theorem growm_any {w : World} {g : Nat} {R : Nat → Option Role} {N M E : List Key → Option Nat} {C : Nat} {mx : Int} {av : Value} (h : Nodes w g R N M E C mx av) (k : List Key) (b : Nat) (hk : N k = some b) (s : Txt) (hs : s ≠ []) (hl : s.length ≤ 1000) (hC : C < 900000) :
    Calls Tryz.prog 62 #[.pointer (some ⟨b, offK k, none⟩), S s] w fun e w' => ∃ b', e = .returned (.pointer (some ⟨b', 0, none⟩)) ∧ Grown w g R N E C mx av k (keyS s) b' w' := by
  have hn := h.node k b hk
  have HBL := Lib.hid (belowm_any hn s hs (by omega))
  cases hc : N (k ++ [keyS s]) with
  | some b' =>
    rw [hc] at HBL
    have HE := Lib.hid (Grown.there h hc)
    clear hn hc hk h hs hl hC
    go_enter Tryz.func62, Tryz.ntmps62
    go_wp2_with fail
    refine HBL.out.mono ?_
    rintro e w' ⟨rfl, hw⟩
    rw [hw]
    clear hw w'
    unfold ptrO
    go_wp2
    go_ret
    exact ⟨b', rfl, HE.out⟩
  | none =>
    rw [hc] at HBL
    obtain ⟨c, r, rfl⟩ : ∃ c r, s = c :: r := by
      cases s with
      | nil => exact absurd rfl hs
      | cons c r => exact ⟨c, r, rfl⟩
    have hix : ∀ w, (Instr.index 9 (S (c :: r)) (.int .i64 0)).run Tryz.prog w = .ok (B c) w := fun w => index_S Tryz.underlying9 (c :: r) 0 c rfl w
    have hkey := key_head c r
    have H := Lib.hid (And.intro h (And.intro hk hc))
    obtain ⟨O, hO⟩ : ∃ O, O = offK k := ⟨_, rfl⟩
    rw [← hO] at hn HBL ⊢
    have HO := Lib.hid hO
    clear hO
    rcases kind_casesB c with rfl | ⟨g2, rfl⟩ | ⟨h1, h2, g2, g3⟩
    · rw [if_pos rfl] at hkey
      rw [hkey] at H ⊢
      have HE := Grown.cell H.out.1 H.out.2.1 H.out.2.2 75 1 (.inl ⟨rfl, rfl⟩)
      rw [← HO.out] at HE
      have HE := Lib.hid HE
      have hn1 := hn.same (w' := w.alloc (.cells #[.map none, .pointer none, .pointer none, .pointer none] 75)) (heap_alloc_old w _ hn.lt) (fun m hm => heap_alloc_old w _ (H.out.1.lt m _ (H.out.1.mR k m hm).1))
      have f1 := hn1.par.1
      have f2 := hn1.par.2
      generalize S (58 :: r) = X at *
      clear hn hn1 h hk hc hs hl
      go_enter Tryz.func62, Tryz.ntmps62
      go_wp2_with fail
      refine HBL.out.mono ?_
      rintro e w' ⟨rfl, hw⟩
      rw [hw]
      clear hw w'
      unfold ptrO
      go_wp2
      go_ret
      exact ⟨_, rfl, HE.out⟩
    · rw [if_neg (by decide), if_pos rfl] at hkey
      rw [hkey] at H ⊢
      have HE := Grown.cell H.out.1 H.out.2.1 H.out.2.2 75 2 (.inr ⟨rfl, rfl⟩)
      rw [← HO.out] at HE
      have HE := Lib.hid HE
      have hn1 := hn.same (w' := w.alloc (.cells #[.map none, .pointer none, .pointer none, .pointer none] 75)) (heap_alloc_old w _ hn.lt) (fun m hm => heap_alloc_old w _ (H.out.1.lt m _ (H.out.1.mR k m hm).1))
      have f1 := hn1.rst.1
      have f2 := hn1.rst.2
      generalize S (42 :: r) = X at *
      clear hn hn1 h hk hc hs hl
      go_enter Tryz.func62, Tryz.ntmps62
      go_wp2_with fail
      refine HBL.out.mono ?_
      rintro e w' ⟨rfl, hw⟩
      rw [hw]
      clear hw w'
      unfold ptrO
      go_wp2
      go_ret
      exact ⟨_, rfl, HE.out⟩
    · rw [if_neg h1, if_neg h2] at hkey
      rw [hkey] at H ⊢
      cases hM : M k with
      | none =>
        have hf0 : ∀ x, N (k ++ [.lit x]) = none := by have := hn.map; rw [hM] at this; exact this
        have HPM : Hid (PMap Tryz.prog 9 (((w.alloc (.cells #[.map none, .pointer none, .pointer none, .pointer none] 75)).alloc (.map #[] 0)).setCell ⟨b, O, none⟩ (.map (some (w.heap.size + 1)))) (w.heap.size + 1) 0 (fun _ => none)) := Lib.hid (by
          have h1 := pmap_made (P := Tryz.prog) (k := 9) (w.alloc (.cells #[.map none, .pointer none, .pointer none, .pointer none] 75))
          rw [alloc_size] at h1
          refine PMap.same h1 (Below.heap_setCell _ _ _ _ (fun e => ?_))
          have := hn.lt
          have e : w.heap.size + 1 = b := e
          omega)
        have HE : Hid (∀ w', PMap Tryz.prog 9 w' (w.heap.size + 1) (0 + 1) (updF (fun _ => none) (c :: r) w.heap.size) → (((w.alloc (.cells #[.map none, .pointer none, .pointer none, .pointer none] 75)).alloc (.map #[] 0)).setCell ⟨b, O, none⟩ (.map (some (w.heap.size + 1)))).grownBy w' (some (w.heap.size + 1)) → Grown w g R N E C mx av k (.lit (c :: r)) w.heap.size w') := Lib.hid fun w' a1 a2 => by
          refine Grown.lit H.out.1 H.out.2.1 H.out.2.2 75 (w.heap.size + 1) _ (.inr ⟨hM, rfl, rfl⟩) ?_ (by rw [← HO.out]; exact a2)
          have : (fun s => N (k ++ [.lit s])) = fun _ => none := funext hf0
          rw [this]
          exact a1.mono (by omega)
        have hn1 := hn.same (w' := w.alloc (.cells #[.map none, .pointer none, .pointer none, .pointer none] 75)) (heap_alloc_old w _ hn.lt) (fun m hm => heap_alloc_old w _ (H.out.1.lt m _ (H.out.1.mR k m hm).1))
        have f1 := hn1.lits.1
        have f2 := hn1.lits.2
        have hn2 := hn1.same (w' := (w.alloc (.cells #[.map none, .pointer none, .pointer none, .pointer none] 75)).alloc (.map #[] 0)) (heap_alloc_old _ _ hn1.lt) (fun m hm => by rw [hM] at hm; cases hm)
        have f3 := hn2.lits.1
        have f4 := hn2.lits.2
        rw [hM] at f1 f3
        have f5 : (((w.alloc (.cells #[.map none, .pointer none, .pointer none, .pointer none] 75)).alloc (.map #[] 0)).setCell ⟨b, O, none⟩ (.map (some (w.heap.size + 1)))).cell? ⟨b, O, none⟩ = some (.map (some (w.heap.size + 1))) := by
          obtain ⟨cs, t, hr, h0, _⟩ := hn2.row
          rw [cell_of_row _ b O _ t (0, 0) (hr.set O (.map (some (w.heap.size + 1))))]
          exact set_at h0
        have hmm := @run_makeMap Tryz.prog
        have e1 := nilMm
        have HL := Lib.hid hl
        obtain ⟨X, hX⟩ : ∃ X, X = S (c :: r) := ⟨_, rfl⟩
        rw [← hX] at hix HBL ⊢
        have HX := Lib.hid hX
        clear hn hn1 hn2 h hk hc hs hl hM hX hf0 h1 h2
        unfold mapV at f1 f3
        go_enter Tryz.func62, Tryz.ntmps62
        go_wp2_with fail
        refine HBL.out.mono ?_
        rintro e w' ⟨rfl, hw⟩
        rw [hw]
        clear hw w'
        unfold ptrO
        go_wp2_with (first
          | (at_mapUpdate; refine wpList_putP Tryz.underlying9 Tryz.underlying72 rfl _ _ _ rfl rfl HPM.out (by omega) (c :: r) HX.out (by have := HL.out; omega) w.heap.size rfl ?_; intro w5 h5 h6; have H5 := Lib.hid (HE.out w5 h5 h6); clear h5 h6)
          | fail)
        go_ret
        exact ⟨_, rfl, H5.out⟩
      | some m =>
        have hpm : PMap Tryz.prog 9 w m C (fun x => N (k ++ [.lit x])) := by have := hn.map; rw [hM] at this; exact this
        have HPM : Hid (PMap Tryz.prog 9 (w.alloc (.cells #[.map none, .pointer none, .pointer none, .pointer none] 75)) m C (fun x => N (k ++ [.lit x]))) := Lib.hid (hpm.below ((Below.refl _ w).alloc (Nat.le_refl _) _))
        have HE : Hid (∀ w', PMap Tryz.prog 9 w' m (C + 1) (updF (fun x => N (k ++ [.lit x])) (c :: r) w.heap.size) → (w.alloc (.cells #[.map none, .pointer none, .pointer none, .pointer none] 75)).grownBy w' (some m) → Grown w g R N E C mx av k (.lit (c :: r)) w.heap.size w') := Lib.hid fun w' a1 a2 =>
          Grown.lit H.out.1 H.out.2.1 H.out.2.2 75 m _ (.inl ⟨hM, rfl⟩) a1 a2
        have hn1 := hn.same (w' := w.alloc (.cells #[.map none, .pointer none, .pointer none, .pointer none] 75)) (heap_alloc_old w _ hn.lt) (fun m hm => heap_alloc_old w _ (H.out.1.lt m _ (H.out.1.mR k m hm).1))
        have f1 := hn1.lits.1
        rw [hM] at f1
        have HL := Lib.hid hl
        have HC := Lib.hid hC
        have e1 := someMm m
        obtain ⟨X, hX⟩ : ∃ X, X = S (c :: r) := ⟨_, rfl⟩
        rw [← hX] at hix HBL ⊢
        have HX := Lib.hid hX
        clear hn hn1 h hk hc hs hl hM hX hpm h1 h2
        unfold mapV at f1
        go_enter Tryz.func62, Tryz.ntmps62
        go_wp2_with fail
        refine HBL.out.mono ?_
        rintro e w' ⟨rfl, hw⟩
        rw [hw]
        clear hw w'
        unfold ptrO
        go_wp2_with (first
          | (at_mapUpdate; refine wpList_putP Tryz.underlying9 Tryz.underlying72 rfl _ _ _ rfl rfl HPM.out (by have := HC.out; omega) (c :: r) HX.out (by have := HL.out; omega) w.heap.size rfl ?_; intro w5 h5 h6; have H5 := Lib.hid (HE.out w5 h5 h6); clear h5 h6)
          | fail)
        go_ret
        exact ⟨_, rfl, H5.out⟩
end Go.Proofs.YtendejpkdjkmnaaGreatDoor
/- Rows of texts, wherever they lie. -/
namespace Go.Proofs.YtendejpkdjkmnaaGreatDoor
open Go.RowKit

/-- A row of texts, wherever it lies in its block. -/
structure TA (w : World) (V : Value) (l : List (List UInt8)) (b o : Nat) : Prop where
  len : ∀ T w', (Builtin.len_ #[53] T #[V]).run Tryz.prog w' = .ok (.int .i64 (l.length : Int)) w'
  index : ∀ i, i < l.length → ∀ w', (Instr.indexAt 53 V (.int .i64 (i : Int))).run Tryz.prog w' = .ok (.pointer (some ⟨b, o + i, none⟩)) w'
  cell : ∀ i s, l[i]? = some s → w.cell? ⟨b, o + i, none⟩ = some (S s)
  form : ∃ a c, V = .slice a l.length c
  cap : l = [] ∨ ∃ c, V = .slice (some ⟨b, o, none⟩) l.length c ∧ l.length ≤ c
theorem TA.below {w w' : World} {V : Value} {l : List (List UInt8)} {b o : Nat} (h : TA w V l b o) (hb : Below w.heap.size w w') : TA w' V l b o :=
  ⟨h.len, h.index, fun i s hs => by
    have h1 := h.cell i s hs
    rw [hb.cell (World.block_lt_of_cell? w _ h1)]; exact h1, h.form, h.cap⟩
theorem lenT (a : Option Addr) (n c : Nat) (T : TypeId) (w' : World) : (Builtin.len_ #[53] T #[.slice a n c]).run Tryz.prog w' = .ok (.int .i64 (n : Int)) w' := by
  simp [Builtin.len_, run_underlying Tryz.underlying53, Result.andThen, goInt]
theorem indexT (b o n c i : Nat) (hi : i < n) (w' : World) : (Instr.indexAt 53 (.slice (some ⟨b, o, none⟩) n c) (.int .i64 (i : Int))).run Tryz.prog w' = .ok (.pointer (some ⟨b, o + i, none⟩)) w' := by
  have := run_index_at (P := Tryz.prog) Tryz.underlying53 (fun w => Tryz.sizeOf9 w) b o n c i hi w'
  rwa [Nat.mul_one] at this
theorem ta_nil (w : World) (a : Option Addr) (c : Nat) : TA w (.slice a 0 c) [] 0 0 :=
  ⟨fun T w' => lenT a 0 c T w', fun i hi => absurd hi (by simp), fun i s hs => (by simp at hs), ⟨a, c, rfl⟩, .inl rfl⟩
theorem ta_row {w : World} {g : Nat} {l : List (List UInt8)} {n c : Nat} (h : Row w g (l.map S).toArray 9) (hn : n = l.length) (hc : n ≤ c := by omega) : TA w (.slice (some ⟨g, 0, none⟩) n c) l g 0 := by
  subst hn
  exact ⟨fun T w' => lenT _ _ _ T w', fun i hi w' => indexT g 0 _ c i hi w', fun i s hs => by
    rw [cell_of_row w g _ _ 9 (0, 0) h, List.getElem?_toArray, List.getElem?_map, Nat.zero_add, hs]; rfl, ⟨_, _, rfl⟩, .inr ⟨c, rfl, hc⟩⟩
theorem ta_own {w : World} {base : Nat} {V : Value} {l : List (List UInt8)} (h : Own base V (l.map S) w) : ∃ b, TA w V l b 0 := by
  rcases h with ⟨rfl, h0⟩ | ⟨g, cap, rfl, h1, h2, h3, h4, h5, h6⟩
  · have : l = [] := by simpa using h0
    subst this
    exact ⟨0, ta_nil w none 0⟩
  · rw [List.length_map]
    exact ⟨g, fun T w' => lenT _ _ _ T w', fun i hi w' => indexT g 0 _ cap i hi w', fun i s hs => h5 i (S s) (by rw [List.getElem?_map, hs]; rfl), ⟨_, _, rfl⟩, .inr ⟨cap, rfl, by rw [List.length_map] at h3; exact h3⟩⟩
end Go.Proofs.YtendejpkdjkmnaaGreatDoor
/- How long a text a search takes as it likes: the library says so in a cell. -/
namespace Go.Proofs.YtendejpkdjkmnaaGreatDoor
open Go.RowKit

def MaxAt (w : World) : Prop := ∃ m, w.cell? ⟨Tryz.lays146_ren.g 1, 0, none⟩ = some (.int .i64 m)
theorem MaxAt.below {w w' : World} (h : MaxAt w) (hb : Below w.heap.size w w') : MaxAt w' := by
  obtain ⟨m, hm⟩ := h
  exact ⟨m, by rw [hb.cell (World.block_lt_of_cell? w _ hm)]; exact hm⟩
theorem max_of {W : World} (h : W.ShapedOpen Tryz.prog) : MaxAt W := Tryz.laysM146.s1_3 W h
end Go.Proofs.YtendejpkdjkmnaaGreatDoor
