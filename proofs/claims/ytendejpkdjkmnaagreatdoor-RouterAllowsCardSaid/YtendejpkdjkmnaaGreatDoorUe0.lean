/- A request whose method is turned, beside a router (stage 14); bounds of what Allow tells. -/
import Derived.Test.YtendejpkdjkmnaaGreatDoorJg
namespace Go.Proofs.YtendejpkdjkmnaaGreatDoor
open Go.RowKit

/-- The request's box with a method M, and the router beside it. -/
structure AlAt (RF : World → (Nat → Prop) → Nat → List Rt → Prop) (w : World) (F : Nat → Prop) (g : Nat) (l : List Rt) (r : RqU) (Vr : Value) (M : Txt) (W : World) : Prop where
  row : Row W w.heap.size (rquC { r with m := M } Vr) 24
  rf : RF W F g l
  bel : Below w.heap.size w W
section
variable {RF : World → (Nat → Prop) → Nat → List Rt → Prop} {w : World} {F : Nat → Prop} {g : Nat} {l : List Rt} {r : RqU} {Vr : Value} {M : Txt} {W : World}
theorem AlAt.below (C : RouterF w RF) (h : AlAt RF w F g l r Vr M W) {W' : World} (hb : Below W.heap.size W W') : AlAt RF w F g l r Vr M W' :=
  ⟨h.row.below hb h.row.lt, C.below h.rf hb, h.bel.trans (hb.mono h.bel.size)⟩
theorem AlAt.store (C : RouterF w RF) (h : AlAt RF w F g l r Vr M W) (hF : ¬ F w.heap.size) (M' : Txt) : AlAt RF w F g l r Vr M' (W.setCell ⟨w.heap.size, 0, none⟩ (S M')) :=
  ⟨h.row.set 0 (S M'), C.same h.rf (by simp [World.setCell]) fun k hk => Below.heap_setCell _ _ _ _ fun e => hF (by rw [← show k = w.heap.size from e]; exact hk), h.bel.setCell (p := ⟨w.heap.size, 0, none⟩) (Nat.le_refl _) (S M')⟩
theorem AlAt.cells (h : AlAt RF w F g l r Vr M W) : (W.cell? ⟨w.heap.size, 0, none⟩ = some (S M) ∧ W.cell? ⟨w.heap.size, 1, none⟩ = some (S r.p) ∧ W.cell? ⟨w.heap.size, 2, none⟩ = some (S r.q) ∧ W.cell? ⟨w.heap.size, 3, none⟩ = some (.int .i64 r.v) ∧ W.cell? ⟨w.heap.size, 4, none⟩ = some Vr ∧ W.cell? ⟨w.heap.size, 5, none⟩ = some (S r.body) ∧ W.cell? ⟨w.heap.size, 6, none⟩ = some (.bool r.cl)) ∧ W.frozen? ⟨w.heap.size, 0, none⟩ = false :=
  ⟨⟨cell_of_row _ _ 0 _ _ (0, 0) h.row, cell_of_row _ _ 1 _ _ (0, 0) h.row, cell_of_row _ _ 2 _ _ (0, 0) h.row, cell_of_row _ _ 3 _ _ (0, 0) h.row, cell_of_row _ _ 4 _ _ (0, 0) h.row, cell_of_row _ _ 5 _ _ (0, 0) h.row, cell_of_row _ _ 6 _ _ (0, 0) h.row⟩, h.row.frozen 0⟩
theorem AlAt.serve (C : RouterF w RF) (h : AlAt RF w F g l r Vr M W) (hl : SmallRo l) (hg : GoodR l) (hr : SmallU r) (hM : M.length ≤ 200) {b o : Nat} (hA : FA w Vr r.fs b o) :
    Calls Tryz.prog 9 #[.pointer (some ⟨g, 0, none⟩), .agg #[S M, S r.p, S r.q, .int .i64 r.v, Vr, S r.body, .bool r.cl]] W fun e W' =>
      ∃ x n a c bx ox, ServeIs l M r.p r.body x ∧ n = x.fs.length ∧ e = .returned (.tuple #[.agg #[.int .i64 x.code, .slice a n c, S x.body], .int .i64 x.kind]) ∧ FA W' (.slice a n c) x.fs bx ox ∧ AlAt RF w F g l r Vr M W' ∧ Below W.heap.size W W' := by
  refine (C.serve l g F { r with m := M } Vr b o W h.bel h.rf hl hg ⟨hr.path, hr.body, hM⟩ (hA.below h.bel)).mono ?_
  rintro e W' ⟨hb, x, Vx, bx, ox, h1, h2, h3⟩
  obtain ⟨a, c, hv⟩ := h3.form
  subst hv
  exact ⟨x, _, a, c, bx, ox, h1, rfl, h2, h3, h.below C hb, hb⟩
end
theorem RoA.lt {w : World} {V : Value} {l : List Rt} {b o : Nat} (h : RoA w V l b o) (hne : l ≠ []) : b < w.heap.size := by
  cases l with
  | nil => exact absurd rfl hne
  | cons s r => exact World.block_lt_of_cell? w _ (h.cell 0 s rfl 0 _ rfl)
theorem eqin_S (a b : Txt) (w : World) : (Op.equalIn 9999 9 (S a) (S b)).run Tryz.prog w = .ok (a == b) w := by
  unfold S
  rw [run_equalIn_string w 9998 9 _ _ Tryz.underlying9]
  congr 1
  rw [Bool.eq_iff_iff, beq_iff_eq, beq_iff_eq]
  constructor
  · intro h
    first
      | (injection h with h; exact List.toArray_inj.1 h)
      | simpa using h
  · intro h; rw [h]
theorem leq_no {a b : Txt} (h : ltT b a = true) : binOp .leq 9 (S a) (S b) = pure (.bool false) := by
  have e : ∀ x : Txt, (⟨x.toArray⟩ : ByteArray).toList = x := fun x => by simp
  unfold S
  rw [binOp_string_leq, e, e, less_lt, ltT_asymm _ _ h, Bool.false_or]
  have : a ≠ b := fun h1 => by rw [h1, ltT_irrefl] at h; cases h
  rw [beq_eq_false_iff_ne.2 this]
theorem nguard_BU (o1 o2 : Operand) (x : UInt8) (k : Int) : eqGuard .neq 5 o1 o2 (B x) (.int .u8 k) = pure () := rfl
theorem guard_SU (o1 o2 : Operand) (x : Txt) (y : ByteArray) : eqGuard .eql 9 o1 o2 (S x) (.string y) = pure () := rfl
theorem nguard_SU (o1 o2 : Operand) (x : Txt) (y : ByteArray) : eqGuard .neq 9 o1 o2 (S x) (.string y) = pure () := rfl
theorem neq_B (c d : UInt8) : binOp .neq 5 (B c) (B d) = pure (.bool (c != d)) := by
  by_cases h : c = d
  · subst h
    rw [bne_self_eq_false]
    unfold B
    simp [binOp, Op.intCmp]
  · rw [bne_iff_ne.2 h]; exact B_neq 5 c d h
def noM : Txt := [78, 79, 45, 83, 85, 67, 72]
/-! How long Allow's value is. -/
theorem nodup_len : ∀ (ms L : List Txt), ms.Nodup → (∀ m ∈ ms, m ∈ L) → ms.length ≤ L.length
  | [], _, _, _ => by simp
  | m :: ms, L, h, hs => by
    rw [List.nodup_cons] at h
    have hm := hs m (List.mem_cons_self ..)
    have := nodup_len ms (L.erase m) h.2 fun k hk => by
      have hne : k ≠ m := fun e => h.1 (by rw [← e]; exact hk)
      exact (List.mem_erase_of_ne hne).2 (hs k (List.mem_cons_of_mem _ hk))
    rw [List.length_erase_of_mem hm] at this
    have hpos := List.length_pos_of_mem hm
    rw [List.length_cons]
    omega
theorem told_few {l : List Rt} {p : Txt} {ms : List Txt} (hr : Rising ms) (hm : ∀ k, k ∈ ms ↔ toldR l p k) : ms.length ≤ l.length + 1 := by
  have hnd : ms.Nodup := by
    unfold Rising at hr
    refine hr.imp ?_
    intro a b h e
    rw [e, ltT_irrefl] at h; cases h
  have := nodup_len ms (headT :: l.map (·.m)) hnd fun k hk => by
    rcases (hm k).1 hk with ⟨r, h1, _, h2⟩ | ⟨h1, _⟩
    · rw [← h2]; exact List.mem_cons_of_mem _ (List.mem_map_of_mem h1)
    · rw [h1]; exact List.mem_cons_self ..
  simpa using this
theorem told_short {l : List Rt} {p m : Txt} (hl : SmallRo l) (h : toldR l p m) : m.length ≤ 200 := by
  rcases h with ⟨r, h1, _, h2⟩ | ⟨h1, _⟩
  · rw [← h2]; exact (hl.2 r h1).1
  · rw [h1]; decide
theorem sep_len : ∀ {ms : List Txt}, (∀ m ∈ ms, m.length ≤ 200) → (sepA ms).length ≤ ms.length * 202
  | [], _ => by simp [sepA]
  | m :: ms, h => by
    have h1 := h m (List.mem_cons_self ..)
    have h2 := sep_len (ms := ms) fun k hk => h k (List.mem_cons_of_mem _ hk)
    have e : sepA (m :: ms) = m ++ [44, 32] ++ sepA ms := by unfold sepA; rw [List.flatMap_cons]
    rw [e, List.length_append, List.length_append, List.length_cons]
    simp only [List.length_cons, List.length_nil]
    omega
def lastA (ms : List Txt) (i : Nat) : Txt := ((ms.take i).getLast?).getD []
theorem lastA_next {ms : List Txt} {i : Nat} {m : Txt} (h : ms[i]? = some m) : lastA ms (i + 1) = m := by
  unfold lastA
  rw [List.take_add_one, h]; simp
theorem lastA_lt {ms : List Txt} (hr : Rising ms) {i : Nat} {m : Txt} (h : ms[i]? = some m) (hm : m ≠ []) : ltT (lastA ms i) m = true := by
  cases i with
  | zero =>
    unfold lastA
    cases m with
    | nil => exact absurd rfl hm
    | cons c m => rfl
  | succ i =>
    obtain ⟨hi, rfl⟩ := List.getElem?_eq_some_iff.1 h
    rw [lastA_next (List.getElem?_eq_getElem (by omega : i < ms.length))]
    exact List.pairwise_iff_getElem.1 hr i (i + 1) _ _ (by omega)
theorem takeT_contains {ms : List Txt} {i : Nat} {m : Txt} (h : ms[i]? = some m) (x : Txt) : (ms.take (i + 1)).contains x = ((ms.take i).contains x || m == x) := by
  rw [List.take_add_one, h, Bool.eq_iff_iff, List.contains_iff_mem, Bool.or_eq_true, List.contains_iff_mem, beq_iff_eq, List.mem_append]
  simp [eq_comm]
theorem lastA_ne {ms : List Txt} (h : ms ≠ []) (ht : ∀ m ∈ ms, m ≠ []) : lastA ms ms.length ≠ [] := by
  have hp : 0 < ms.length := List.length_pos_iff.2 h
  have e : ms[ms.length - 1]? = some (ms[ms.length - 1]'(by omega)) := List.getElem?_eq_getElem _
  have h1 := lastA_next e
  rw [Nat.sub_add_cancel hp] at h1
  rw [h1]
  exact ht _ (List.getElem_mem _)
theorem takeR_any {l : List Rt} {i : Nat} {s : Rt} (h : l[i]? = some s) : ((l.take (i + 1)).any fun s => s.m == headT) = (((l.take i).any fun s => s.m == headT) || s.m == headT) := by
  rw [List.take_add_one, h, List.any_append]; simp
end Go.Proofs.YtendejpkdjkmnaaGreatDoor
