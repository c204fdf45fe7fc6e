/- A slice at an offset, with room of its own: elements of several cells, told one behind the other. Append, parts, one element turned, cleared. Over any program. -/
import Derived.Test.YtlmolmmhkddpaaaGen
import Derived.Deep.AppendSrc
import Derived.Deep.Upon
import Derived.Room.AppendOwn
import Derived.Laws.IdiomCopy
import Derived.Lib.SliceRun
namespace Go.Proofs.Ytlmolmmhkddpaaa
open Go.RowKit
variable {P : Program}

/-- A type of sz cells. -/
def ElemS (P : Program) (e : TypeId) (sz : Nat) : Prop := ∃ i z, P.info? e = some i ∧ i.zero = some z ∧ i.size = sz ∧ i.bytes ≤ 1024 ∧ z.cells.size = sz ∧ 0 < sz
theorem elemS_of {e : TypeId} {z : Value} {n sz : Nat} (h : (P.info? e).map (fun i => (i.zero, i.size, i.bytes)) = some (some z, sz, n)) (hn : n ≤ 1024) (hz : z.cells.size = sz) (h0 : 0 < sz) : ElemS P e sz := by
  cases hi : P.info? e with
  | none => simp [hi] at h
  | some i =>
    simp only [hi, Option.map_some, Option.some.injEq, Prod.mk.injEq] at h
    exact ⟨i, z, hi, h.1, h.2.1, by omega, hz, h0⟩

/-- The slice v has n elements, whose cells, one behind the other, are xs; all its room is there and may be written. -/
def Lies (w : World) (sz : Nat) (v : Value) (n : Nat) (xs : List Value) : Prop :=
  xs.length = n * sz ∧
  ((v = .slice none 0 0 ∧ n = 0) ∨
   ∃ g o c, v = .slice (some ⟨g, o, none⟩) n c ∧ n ≤ c ∧ c ≤ maxLen ∧ g < w.heap.size ∧ w.rangeAt g o xs ∧ w.there g o (c * sz))

section
variable {w w' : World} {sz n : Nat} {v : Value} {xs : List Value}
theorem lies_nil (w : World) (sz : Nat) : Lies w sz (.slice none 0 0) 0 [] := ⟨by simp, .inl ⟨rfl, rfl⟩⟩
theorem Lies.lt (h : Lies w sz v n xs) : ∀ k, v.ownBlock = some k → k < w.heap.size := by
  intro k hk
  rcases h.2 with ⟨rfl, _⟩ | ⟨g, o, c, rfl, _, _, hg, _⟩
  · cases hk
  · cases hk; exact hg
/-- The block where it lies is as it was. -/
theorem Lies.same (h : Lies w sz v n xs) (hs : w.heap.size ≤ w'.heap.size) (hb : ∀ k, v.ownBlock = some k → w'.heap[k]? = w.heap[k]?) : Lies w' sz v n xs := by
  refine ⟨h.1, ?_⟩
  rcases h.2 with h2 | ⟨g, o, c, rfl, hn, hc, hg, hr, ht⟩
  · exact .inl h2
  · have e := hb g rfl
    refine .inr ⟨g, o, c, rfl, hn, hc, by omega, fun j u hu => ?_, fun j hj => ?_⟩
    · rw [World.cell?_of_block (w := w) e]; exact hr j u hu
    · rw [World.cell?_of_block (w := w) e, World.frozen?_of_block (w := w) e]; exact ht j hj
theorem Lies.grown (h : Lies w sz v n xs) {row : Option Nat} (hg : w.grownBy w' row) (hne : ∀ k, v.ownBlock = some k → some k ≠ row) : Lies w' sz v n xs :=
  h.same hg.size (fun k hk => hg.block k (h.lt k hk) (hne k hk))
theorem Lies.alloc (h : Lies w sz v n xs) (o : Obj) : Lies (w.alloc o) sz v n xs :=
  h.same (by simp) (fun k hk => heap_alloc_old w o (h.lt k hk))
theorem Lies.below (h : Lies w sz v n xs) (hb : Below w.heap.size w w') : Lies w' sz v n xs := h.same hb.size (fun k hk => hb.block k (h.lt k hk))
/-- It is a slice's value. -/
theorem Lies.form (h : Lies w sz v n xs) : ∃ a c, v = .slice a n c := by
  rcases h.2 with ⟨rfl, rfl⟩ | ⟨g, o, c, rfl, _⟩
  · exact ⟨_, _, rfl⟩
  · exact ⟨_, _, rfl⟩
theorem Lies.len (h : Lies w sz v n xs) {t e : TypeId} (ht : P.underlying t = some (.slice e)) (T : TypeId) (W : World) : (Builtin.len_ #[t] T #[v]).run P W = .ok (.int .i64 (n : Int)) W := by
  obtain ⟨a, c, rfl⟩ := h.form
  simp [Builtin.len_, run_underlying ht, Result.andThen, goInt]
/-- Its elements' addresses: one block, one place, and what stands there. -/
theorem Lies.index (h : Lies w sz v n xs) {t e : TypeId} (ht : P.underlying t = some (.slice e)) (hz : ∀ w, (sizeOf e).run P w = .ok sz w) :
    ∃ g o, (0 < n → v.ownBlock = some g ∧ g < w.heap.size) ∧ (∀ i, i < n → ∀ W, (Instr.indexAt t v (.int .i64 (i : Int))).run P W = .ok (.pointer (some ⟨g, o + i * sz, none⟩)) W) ∧
      ∀ i j, i < n → j < sz → w.cell? ⟨g, o + i * sz + j, none⟩ = xs[i * sz + j]? ∧ w.frozen? ⟨g, o + i * sz + j, none⟩ = false := by
  rcases h.2 with ⟨rfl, rfl⟩ | ⟨g, o, c, rfl, hn, hc, hg, hr, hth⟩
  · exact ⟨0, 0, fun h0 => absurd h0 (Nat.lt_irrefl 0), fun i hi => absurd hi (Nat.not_lt_zero i), fun i j hi => absurd hi (Nat.not_lt_zero i)⟩
  · refine ⟨g, o, fun _ => ⟨rfl, hg⟩, fun i hi W => ?_, fun i j hi hj => ?_⟩
    · have h1 : (0 : Int) ≤ (i : Int) ∧ (i : Int) < (n : Int) := by omega
      have hadd : (⟨g, o, none⟩ : Addr).add (i * sz) = ⟨g, o + i * sz, none⟩ := Addr.add_mid ..
      simp [Instr.indexAt, run_underlying ht, asIntOf, hz, h1, go_sem]
      intro hge; omega
    · have hlt : i * sz + j < n * sz := by
        have : (i + 1) * sz ≤ n * sz := Nat.mul_le_mul_right sz hi
        rw [Nat.add_mul, Nat.one_mul] at this; omega
      have hcl : n * sz ≤ c * sz := Nat.mul_le_mul_right sz hn
      refine ⟨?_, by rw [Nat.add_assoc]; exact (hth (i * sz + j) (by omega)).2⟩
      have hix : i * sz + j < xs.length := by rw [h.1]; exact hlt
      rw [Nat.add_assoc, hr (i * sz + j) (xs[i * sz + j]'hix) (List.getElem?_eq_getElem hix), List.getElem?_eq_getElem hix]
/-- What stands behind the first m. -/
theorem Lies.from (h : Lies w sz v n xs) {t e : TypeId} (ht : P.underlying t = some (.slice e)) (hz : ∀ w, (sizeOf e).run P w = .ok sz w) (m : Nat) (hm : m ≤ n) :
    ∃ V, (∀ W, (Instr.slice t v (some (.int .i64 (m : Int))) none none).run P W = .ok V W) ∧ Lies w sz V (n - m) (xs.drop (m * sz)) ∧ V.ownBlock = v.ownBlock := by
  have hlen : (xs.drop (m * sz)).length = (n - m) * sz := by rw [List.length_drop, h.1, Nat.sub_mul]
  rcases h.2 with ⟨rfl, rfl⟩ | ⟨g, o, c, rfl, hn, hc, hg, hr, hth⟩
  · obtain rfl : m = 0 := by omega
    refine ⟨.slice none 0 0, fun W => ?_, ⟨hlen, .inl ⟨rfl, rfl⟩⟩, rfl⟩
    simp [Instr.slice, run_underlying ht, Instr.sliceBounds, run_sliceBound, Result.andThen, hz]
  · by_cases hcm : c = m
    · subst hcm
      refine ⟨.slice (some ⟨g, o, none⟩) (n - c) 0, fun W => ?_, ⟨hlen, .inr ⟨g, o, 0, rfl, by omega, Nat.zero_le _, hg, fun j u hu => ?_, fun j hj => ?_⟩⟩, rfl⟩
      · simp [Instr.slice, run_underlying ht, Instr.sliceBounds, run_sliceBound, Result.andThen, hz, hm]
      · have : j < (n - c) * sz := by rw [← hlen]; exact (List.getElem?_eq_some_iff.1 hu).1
        rw [show n - c = 0 by omega, Nat.zero_mul] at this; omega
      · rw [Nat.zero_mul] at hj; omega
    · have hadd : (⟨g, o, none⟩ : Addr).add (m * sz) = ⟨g, o + m * sz, none⟩ := Addr.add_mid ..
      have hmul : m * sz + (c - m) * sz = c * sz := by rw [← Nat.add_mul]; congr 1; omega
      refine ⟨.slice (some ⟨g, o + m * sz, none⟩) (n - m) (c - m), fun W => ?_, ⟨hlen, .inr ⟨g, o + m * sz, c - m, rfl, by omega, by omega, hg, fun j u hu => ?_, fun j hj => ?_⟩⟩, rfl⟩
      · simp [Instr.slice, run_underlying ht, Instr.sliceBounds, run_sliceBound, Result.andThen, hz, hm, hcm, hadd]
      · rw [Nat.add_assoc]
        rw [List.getElem?_drop] at hu
        exact hr _ u hu
      · rw [Nat.add_assoc]
        exact hth (m * sz + j) (by omega)
/-- The first m. -/
theorem Lies.upto (h : Lies w sz v n xs) {t e : TypeId} (ht : P.underlying t = some (.slice e)) (hz : ∀ w, (sizeOf e).run P w = .ok sz w) (m : Nat) (hm : m ≤ n) :
    ∃ V, (∀ W, (Instr.slice t v none (some (.int .i64 (m : Int))) none).run P W = .ok V W) ∧ Lies w sz V m (xs.take (m * sz)) ∧ V.ownBlock = v.ownBlock := by
  have hmul : m * sz ≤ n * sz := Nat.mul_le_mul_right sz hm
  have hlen : (xs.take (m * sz)).length = m * sz := by rw [List.length_take, h.1]; omega
  rcases h.2 with ⟨rfl, rfl⟩ | ⟨g, o, c, rfl, hn, hc, hg, hr, hth⟩
  · obtain rfl : m = 0 := by omega
    refine ⟨.slice none 0 0, fun W => ?_, ⟨hlen, .inl ⟨rfl, rfl⟩⟩, rfl⟩
    simp [Instr.slice, run_underlying ht, Instr.sliceBounds, run_sliceBound, Result.andThen, hz]
  · have hmc : m ≤ c := by omega
    refine ⟨.slice (some ⟨g, o, none⟩) m c, fun W => ?_, ⟨hlen, .inr ⟨g, o, c, rfl, hmc, hc, hg, fun j u hu => ?_, hth⟩⟩, rfl⟩
    · simp [Instr.slice, run_underlying ht, Instr.sliceBounds, run_sliceBound, Result.andThen, hz, hmc, Addr.add]
    · have hj : j < m * sz := by rw [← hlen]; exact (List.getElem?_eq_some_iff.1 hu).1
      rw [List.getElem?_take_of_lt hj] at hu
      exact hr j u hu
/-- What stands from a on, up to b. -/
theorem Lies.mid (h : Lies w sz v n xs) {t e : TypeId} (ht : P.underlying t = some (.slice e)) (hz : ∀ w, (sizeOf e).run P w = .ok sz w) (a b : Nat) (hab : a ≤ b) (hb : b ≤ n) :
    ∃ V, (∀ W, (Instr.slice t v (some (.int .i64 (a : Int))) (some (.int .i64 (b : Int))) none).run P W = .ok V W) ∧ Lies w sz V (b - a) ((xs.drop (a * sz)).take ((b - a) * sz)) ∧ V.ownBlock = v.ownBlock := by
  have hmul : a * sz + (b - a) * sz = b * sz := by rw [← Nat.add_mul]; congr 1; omega
  have hbn : b * sz ≤ n * sz := Nat.mul_le_mul_right sz hb
  have hlen : ((xs.drop (a * sz)).take ((b - a) * sz)).length = (b - a) * sz := by rw [List.length_take, List.length_drop, h.1]; omega
  rcases h.2 with ⟨rfl, rfl⟩ | ⟨g, o, c, rfl, hn, hc, hg, hr, hth⟩
  · obtain rfl : b = 0 := by omega
    obtain rfl : a = 0 := by omega
    refine ⟨.slice none 0 0, fun W => ?_, ⟨by simp, .inl ⟨rfl, rfl⟩⟩, rfl⟩
    simp [Instr.slice, run_underlying ht, Instr.sliceBounds, run_sliceBound, Result.andThen, hz]
  · have hbc : b ≤ c := by omega
    by_cases hca : c = a
    · refine ⟨.slice (some ⟨g, o, none⟩) (b - a) 0, fun W => ?_, ⟨hlen, .inr ⟨g, o, 0, rfl, by omega, Nat.zero_le _, hg, fun j u hu => ?_, fun j hj => ?_⟩⟩, rfl⟩
      · have hbc' : b ≤ a := by omega
        simp [Instr.slice, run_underlying ht, Instr.sliceBounds, run_sliceBound, Result.andThen, hz, hab, hca, hbc']
      · have : j < (b - a) * sz := by rw [← hlen]; exact (List.getElem?_eq_some_iff.1 hu).1
        rw [show b - a = 0 by omega, Nat.zero_mul] at this; omega
      · rw [Nat.zero_mul] at hj; omega
    · have hadd : (⟨g, o, none⟩ : Addr).add (a * sz) = ⟨g, o + a * sz, none⟩ := Addr.add_mid ..
      have hmc : a * sz + (c - a) * sz = c * sz := by rw [← Nat.add_mul]; congr 1; omega
      refine ⟨.slice (some ⟨g, o + a * sz, none⟩) (b - a) (c - a), fun W => ?_, ⟨hlen, .inr ⟨g, o + a * sz, c - a, rfl, by omega, by omega, hg, fun j u hu => ?_, fun j hj => ?_⟩⟩, rfl⟩
      · simp [Instr.slice, run_underlying ht, Instr.sliceBounds, run_sliceBound, Result.andThen, hz, hab, hbc, hca, hadd]
      · have hj : j < (b - a) * sz := by rw [← hlen]; exact (List.getElem?_eq_some_iff.1 hu).1
        rw [List.getElem?_take_of_lt hj, List.getElem?_drop] at hu
        rw [Nat.add_assoc]
        exact hr _ u hu
      · rw [Nat.add_assoc]
        exact hth (a * sz + j) (by omega)
/-- One cell turned. -/
theorem Lies.set {g o c : Nat} (h : Lies w sz (.slice (some ⟨g, o, none⟩) n c) n xs) (k : Nat) (y : Value) (hk : k < n * sz) :
    Lies (w.setCell ⟨g, o + k, none⟩ y) sz (.slice (some ⟨g, o, none⟩) n c) n (xs.set k y) ∧ (w.cell? ⟨g, o + k, none⟩).isSome = true ∧ w.frozen? ⟨g, o + k, none⟩ = false := by
  rcases h.2 with ⟨h0, _⟩ | ⟨g', o', c', he, hn, hc, hg, hr, hth⟩
  · cases h0
  · simp only [Value.slice.injEq, Option.some.injEq, Addr.mk.injEq, and_true, true_and] at he
    obtain ⟨⟨rfl, rfl⟩, rfl⟩ := he
    have hcl : n * sz ≤ c * sz := Nat.mul_le_mul_right sz hn
    obtain ⟨hs, hf⟩ := hth k (by omega)
    obtain ⟨u0, hu0⟩ := Option.isSome_iff_exists.1 hs
    refine ⟨⟨by rw [List.length_set]; exact h.1, .inr ⟨g, o, c, rfl, hn, hc, by simpa [World.setCell] using hg, fun j u hu => ?_, fun j hj => ?_⟩⟩, hs, hf⟩
    · by_cases hj : k = j
      · subst hj
        rw [List.getElem?_set_self (by rw [h.1]; exact hk)] at hu
        obtain rfl := Option.some.inj hu
        exact World.cell?_setCell_same _ _ _ hu0
      · rw [List.getElem?_set_ne hj] at hu
        rw [World.cell?_setCell_other (h := show (⟨g, o + k, none⟩ : Addr) ≠ ⟨g, o + j, none⟩ by intro h; simp only [Addr.mk.injEq] at h; omega)]
        exact hr j u hu
    · obtain ⟨h1, h2⟩ := hth j hj
      refine ⟨?_, by simpa using h2⟩
      obtain ⟨u1, hu1⟩ := Option.isSome_iff_exists.1 h1
      obtain ⟨v', hv'⟩ := cell?_setCell_some (p := ⟨g, o + k, none⟩) (x := y) hu1
      rw [hv']; rfl

/-- What it hands to an append as the second one. -/
theorem Lies.src (h : Lies w sz v n xs) {t e : TypeId} (ht : P.underlying t = some (.slice e)) (h1 : ∀ u ∈ xs, u.oneCell' = true) : Src P sz t v n xs w := by
  rcases h.2 with ⟨rfl, rfl⟩ | ⟨g, o, c, rfl, _, _, _, hr, _⟩
  · obtain rfl : xs = [] := List.length_eq_zero_iff.1 (by rw [h.1, Nat.zero_mul])
    exact Src.ofNil w ht 0
  · exact Src.ofSlice w ht ⟨g, o, none⟩ n c xs h.1 (fun j u hu => by rw [Addr.add_mid]; exact hr j u hu) h1
/-- A block just laid holds them. -/
theorem lies_new (w : World) (e : TypeId) (xs : List Value) (Z : Array Value) (cap : Nat) (hx : xs.length = n * sz) (hc : n ≤ cap) (hm : cap ≤ maxLen) (hz : Z.size = (cap - n) * sz) :
    Lies (w.alloc (.cells (xs.toArray ++ Z) e)) sz (.slice (some ⟨w.heap.size, 0, none⟩) n cap) n xs := by
  have hr : Row (w.alloc (.cells (xs.toArray ++ Z) e)) w.heap.size (xs.toArray ++ Z) e := row_new w _ _
  have hmul : n * sz + (cap - n) * sz = cap * sz := by rw [← Nat.add_mul]; congr 1; omega
  refine ⟨hx, .inr ⟨w.heap.size, 0, cap, rfl, hc, hm, hr.lt, fun j u hu => ?_, fun j hj => ?_⟩⟩
  · rw [Nat.zero_add, cell_of_row _ _ j _ _ _ hr]
    have hl : j < xs.length := (List.getElem?_eq_some_iff.1 hu).1
    rw [Array.getElem?_append_left (by simpa using hl)]
    simpa using hu
  · rw [Nat.zero_add]
    refine ⟨?_, hr.frozen j⟩
    rw [cell_of_row _ _ j _ _ _ hr]
    have : j < (xs.toArray ++ Z).size := by rw [Array.size_append, hz, List.size_toArray, hx]; omega
    rw [Array.getElem?_eq_getElem this]; rfl

/-- Append, whatever is appended: where the new one lies, what it holds, what has turned. -/
theorem Lies.append (h : Lies w sz v n xs) {t tx e : TypeId} (ht : P.underlying t = some (.slice e)) (he : ElemS P e sz) (h1 : ∀ u ∈ xs, u.oneCell' = true) (ty : TypeId) (x : Value) (m : Nat) (news : List Value) (hs : Src P sz tx x m news w) (hb : n + m ≤ 1000000000) :
    ∃ v' w', (Builtin.append_ #[t, tx] ty #[v, x]).run P w = .ok v' w' ∧ Lies w' sz v' (n + m) (xs ++ news) ∧ w.grownBy w' v.ownBlock ∧ (v'.ownBlock = v.ownBlock ∨ v'.ownBlock = some w.heap.size) := by
  obtain ⟨i, z, hi, hz, hsz, hby, hzc, hpos⟩ := he
  subst hsz
  have hnl := hs.newsLen
  have hxl := h.1
  have hfit : ∀ old, old < n + m → Builtin.nextslicecap (n + m) old * i.bytes ≤ 281474976710656 := fun old ho => growslice_fits ho (by
    have : (n + m) * i.bytes ≤ 1000000000 * 1024 := Nat.mul_le_mul hb hby
    omega)
  -- a new block
  have grow : ∀ (bs : Option Addr) (sc : Nat), v = .slice bs n sc → sc < n + m → (Builtin.firstCells i.size n (.slice bs n sc)).run P w.drew = .ok xs.toArray w.drew →
      ∃ v' w', (Builtin.append_ #[t, tx] ty #[v, x]).run P w = .ok v' w' ∧ Lies w' i.size v' (n + m) (xs ++ news) ∧ w.grownBy w' v.ownBlock ∧ (v'.ownBlock = v.ownBlock ∨ v'.ownBlock = some w.heap.size) := by
    rintro bs sc rfl hg hold
    have hrun := run_append_grow_src (P := P) w t tx ty e i z ht hi hz bs n sc xs hold x m news hs hg (by omega) (hfit sc hg)
    have hge := grownCap_ge w (n + m) sc e
    have hcm := grownCap_le_maxLen w (n + m) sc e (by simp only [maxLen]; omega)
    refine ⟨_, _, hrun, ?_, ⟨rfl, rfl, rfl, by simp, fun k hk _ => heap_alloc_old w.drew _ hk⟩, .inr rfl⟩
    exact lies_new w.drew e (xs ++ news) _ _ (by rw [List.length_append, hxl, hnl, Nat.add_mul]) hge hcm (by rw [size_zeroCells, hzc])
  rcases h.2 with ⟨rfl, rfl⟩ | ⟨g, o, c, rfl, hnc, hc, hg, hr, hth⟩
  · obtain rfl : xs = [] := List.length_eq_zero_iff.1 (by rw [hxl, Nat.zero_mul])
    by_cases hm : m = 0
    · subst hm
      obtain rfl : news = [] := List.length_eq_zero_iff.1 (by rw [hnl, Nat.zero_mul])
      exact ⟨_, w, run_append_nothing w t tx ty e i ht hi none 0 0 (Nat.le_refl _) x hs, lies_nil w i.size, ⟨rfl, rfl, rfl, Nat.le_refl _, fun _ _ _ => rfl⟩, .inl rfl⟩
    · exact grow none 0 rfl (by omega) (run_firstCells_none w.drew i.size 0 0 0)
  · by_cases hroom : n + m ≤ c
    · have hcl : n * i.size + m * i.size ≤ c * i.size := by rw [← Nat.add_mul]; exact Nat.mul_le_mul_right _ hroom
      have hc1 : ∀ j, j < news.length → (w.cell? ⟨g, o + n * i.size + j, none⟩).isSome = true := fun j hj => by rw [Nat.add_assoc]; exact (hth _ (by omega)).1
      have hf1 : ∀ j, j < news.length → w.frozen? ⟨g, o + n * i.size + j, none⟩ = false := fun j hj => by rw [Nat.add_assoc]; exact (hth _ (by omega)).2
      have hrun := run_append_room_src (P := P) w t tx ty e i ht hi g o n c x m news hs hroom hc1 hf1
      have hkb := World.keptBut_setCells g (may := fun _ => True) news (o + n * i.size) w (fun _ _ => trivial)
      have hsize : w.heap.size ≤ (w.setCells g (o + n * i.size) news).heap.size := by
        have : ∀ (vs : List Value) (o : Nat) (w : World), (w.setCells g o vs).heap.size = w.heap.size := by
          intro vs
          induction vs with
          | nil => intro o w; rfl
          | cons y r ih => intro o w; rw [World.setCells, ih]; simp [World.setCell]
        rw [this]; exact Nat.le_refl _
      refine ⟨_, _, hrun, ⟨by rw [List.length_append, hxl, hnl, Nat.add_mul], .inr ⟨g, o, c, rfl, hroom, hc, by omega, fun j u hu => ?_, fun j hj => ⟨?_, ?_⟩⟩⟩, ⟨World.os_setCells w g _ news, ?_, World.output_setCells w g _ news, hsize, fun k hk hne => World.heap_setCells_other w g _ news hk (fun e => hne (by rw [e]; rfl))⟩, .inl rfl⟩
      · by_cases hj : j < n * i.size
        · rw [List.getElem?_append_left (by omega)] at hu
          rw [World.cell?_setCells_out g news (o + n * i.size) w ⟨g, o + j, none⟩ (fun _ _ => .inl (by show o + j < _; omega))]
          exact hr j u hu
        · rw [List.getElem?_append_right (by omega), hxl] at hu
          have hlt : j - n * i.size < news.length := (List.getElem?_eq_some_iff.1 hu).1
          have := World.cell?_setCells_in g news (o + n * i.size) w hc1 (j - n * i.size) hlt
          rw [show o + n * i.size + (j - n * i.size) = o + j by omega] at this
          rw [this]
          rw [← (List.getElem?_eq_some_iff.1 hu).2]
      · exact World.isSome_setCells g news _ w _ (hth j hj).1
      · rw [World.frozen?_setCells]; exact (hth j hj).2
      · have : ∀ (vs : List Value) (o : Nat) (w : World), (w.setCells g o vs).tape = w.tape := by
          intro vs
          induction vs with
          | nil => intro o w; rfl
          | cons y r ih => intro o w; rw [World.setCells, ih]; rfl
        exact this _ _ _
    · refine grow _ c rfl (by omega) ?_
      exact run_firstCells_some w.drew i.size n ⟨g, o, none⟩ n c xs hxl (fun j u hu => by rw [Addr.add_mid]; exact hr j u hu)
/-- The room behind the slice v has none of the cells o0 .. o0 + n0 - 1 of block k. -/
def SpareOut (sz : Nat) (v : Value) (k o0 n0 : Nat) : Prop := ∀ g o n c, v = .slice (some ⟨g, o, none⟩) n c → g = k → ∀ j, n * sz ≤ j → j < c * sz → o + j < o0 ∨ o0 + n0 ≤ o + j
/-- What an append leaves alone: cells that are not in the room behind the slice. -/
theorem Lies.append_keeps (h : Lies w sz v n xs) {t tx e : TypeId} (ht : P.underlying t = some (.slice e)) (he : ElemS P e sz) (ty : TypeId) (x : Value) (m : Nat) (news : List Value) (hs : Src P sz tx x m news w) (hb : n + m ≤ 1000000000) {v' : Value} {w' : World}
    (hrun : (Builtin.append_ #[t, tx] ty #[v, x]).run P w = .ok v' w') (k o0 n0 : Nat) (hk : k < w.heap.size) (hsp : SpareOut sz v k o0 n0) :
    (∀ j, o0 ≤ j → j < o0 + n0 → w'.cell? ⟨k, j, none⟩ = w.cell? ⟨k, j, none⟩) ∧ SpareOut sz v' k o0 n0 := by
  obtain ⟨i, z, hi, hz, hsz, hby, hzc, hpos⟩ := he
  subst hsz
  have hnl := hs.newsLen
  have hxl := h.1
  have hfit : ∀ old, old < n + m → Builtin.nextslicecap (n + m) old * i.bytes ≤ 281474976710656 := fun old ho => growslice_fits ho (by
    have : (n + m) * i.bytes ≤ 1000000000 * 1024 := Nat.mul_le_mul hb hby
    omega)
  have grow : ∀ (bs : Option Addr) (sc : Nat), v = .slice bs n sc → sc < n + m → (Builtin.firstCells i.size n (.slice bs n sc)).run P w.drew = .ok xs.toArray w.drew →
      (∀ j, o0 ≤ j → j < o0 + n0 → w'.cell? ⟨k, j, none⟩ = w.cell? ⟨k, j, none⟩) ∧ SpareOut i.size v' k o0 n0 := by
    rintro bs sc rfl hg hold
    have h2 := run_append_grow_src (P := P) w t tx ty e i z ht hi hz bs n sc xs hold x m news hs hg (by omega) (hfit sc hg)
    have e1 := hrun.symm.trans h2
    injection e1 with e1 e2
    subst e1 e2
    refine ⟨fun j _ _ => World.cell?_of_block (w := w) (a := ⟨k, j, none⟩) (heap_alloc_old w.drew _ hk), fun g o n' c he hgk => ?_⟩
    simp only [Value.slice.injEq, Option.some.injEq, Addr.mk.injEq] at he
    obtain ⟨⟨h1, _⟩, _⟩ := he
    omega
  rcases h.2 with ⟨rfl, rfl⟩ | ⟨g, o, c, rfl, hnc, hc, hg, hr, hth⟩
  · obtain rfl : xs = [] := List.length_eq_zero_iff.1 (by rw [hxl, Nat.zero_mul])
    by_cases hm : m = 0
    · subst hm
      obtain rfl : news = [] := List.length_eq_zero_iff.1 (by rw [hnl, Nat.zero_mul])
      have e1 := hrun.symm.trans (run_append_nothing w t tx ty e i ht hi none 0 0 (Nat.le_refl _) x hs)
      injection e1 with e1 e2
      subst e1 e2
      exact ⟨fun _ _ _ => rfl, hsp⟩
    · exact grow none 0 rfl (by omega) (run_firstCells_none w.drew i.size 0 0 0)
  · by_cases hroom : n + m ≤ c
    · have hcl : n * i.size + m * i.size ≤ c * i.size := by rw [← Nat.add_mul]; exact Nat.mul_le_mul_right _ hroom
      have hc1 : ∀ j, j < news.length → (w.cell? ⟨g, o + n * i.size + j, none⟩).isSome = true := fun j hj => by rw [Nat.add_assoc]; exact (hth _ (by omega)).1
      have hf1 : ∀ j, j < news.length → w.frozen? ⟨g, o + n * i.size + j, none⟩ = false := fun j hj => by rw [Nat.add_assoc]; exact (hth _ (by omega)).2
      have e1 := hrun.symm.trans (run_append_room_src (P := P) w t tx ty e i ht hi g o n c x m news hs hroom hc1 hf1)
      injection e1 with e1 e2
      subst e1 e2
      refine ⟨fun j h1 h2 => World.cell?_setCells_out g news (o + n * i.size) w ⟨k, j, none⟩ (fun hb _ => ?_), fun g' o' n' c' he hgk j h1 h2 => ?_⟩
      · have hgk : g = k := hb.symm
        show j < o + n * i.size ∨ o + n * i.size + news.length ≤ j
        rcases Nat.lt_or_ge j (o + n * i.size) with h3 | h3
        · exact .inl h3
        · rcases Nat.lt_or_ge j (o + n * i.size + news.length) with h4 | h4
          · have := hsp g o n c rfl hgk (j - o) (by omega) (by omega)
            omega
          · exact .inr h4
      · simp only [Value.slice.injEq, Option.some.injEq, Addr.mk.injEq, and_true] at he
        obtain ⟨⟨rfl, rfl⟩, rfl, rfl⟩ := he
        have hmul : n * i.size ≤ (n + m) * i.size := Nat.mul_le_mul_right _ (Nat.le_add_right _ _)
        exact hsp g o n c rfl hgk j (by omega) h2
    · refine grow _ c rfl (by omega) ?_
      exact run_firstCells_some w.drew i.size n ⟨g, o, none⟩ n c xs hxl (fun j u hu => by rw [Addr.add_mid]; exact hr j u hu)
/-- What stands behind the first m has the same room behind it. -/
theorem Lies.from_keeps (h : Lies w sz v n xs) {t e : TypeId} (ht : P.underlying t = some (.slice e)) (hz : ∀ w, (sizeOf e).run P w = .ok sz w) (m : Nat) (hm : m ≤ n) {V : Value} (hrun : (Instr.slice t v (some (.int .i64 (m : Int))) none none).run P w = .ok V w) (k o0 n0 : Nat)
    (hsp : SpareOut sz v k o0 n0) : SpareOut sz V k o0 n0 := by
  rcases h.2 with ⟨rfl, rfl⟩ | ⟨g, o, c, rfl, hn, hc, hg, hr, hth⟩
  · obtain rfl : m = 0 := by omega
    have h2 : (Instr.slice t (.slice none 0 0) (some (.int .i64 ((0 : Nat) : Int))) none none).run P w = .ok (.slice none 0 0) w := by
      simp [Instr.slice, run_underlying ht, Instr.sliceBounds, run_sliceBound, Result.andThen, hz]
    have e1 := hrun.symm.trans h2
    injection e1 with e1 _
    subst e1
    exact hsp
  · by_cases hcm : c = m
    · subst hcm
      have h2 : (Instr.slice t (.slice (some ⟨g, o, none⟩) n c) (some (.int .i64 (c : Int))) none none).run P w = .ok (.slice (some ⟨g, o, none⟩) (n - c) 0) w := by
        simp [Instr.slice, run_underlying ht, Instr.sliceBounds, run_sliceBound, Result.andThen, hz, hm]
      have e1 := hrun.symm.trans h2
      injection e1 with e1 _
      subst e1
      intro g' o' n' c' he hgk j h1 h3
      simp only [Value.slice.injEq, Option.some.injEq, Addr.mk.injEq, and_true] at he
      obtain ⟨_, _, rfl⟩ := he
      omega
    · have hadd : (⟨g, o, none⟩ : Addr).add (m * sz) = ⟨g, o + m * sz, none⟩ := Addr.add_mid ..
      have h2 : (Instr.slice t (.slice (some ⟨g, o, none⟩) n c) (some (.int .i64 (m : Int))) none none).run P w = .ok (.slice (some ⟨g, o + m * sz, none⟩) (n - m) (c - m)) w := by
        simp [Instr.slice, run_underlying ht, Instr.sliceBounds, run_sliceBound, Result.andThen, hz, hm, hcm, hadd]
      have e1 := hrun.symm.trans h2
      injection e1 with e1 _
      subst e1
      intro g' o' n' c' he hgk j h1 h3
      simp only [Value.slice.injEq, Option.some.injEq, Addr.mk.injEq, and_true] at he
      obtain ⟨⟨rfl, rfl⟩, rfl, rfl⟩ := he
      have hmul : m * sz + (n - m) * sz = n * sz := by rw [← Nat.add_mul]; congr 1; omega
      have hmul2 : m * sz + (c - m) * sz = c * sz := by rw [← Nat.add_mul]; congr 1; omega
      have := hsp g o n c rfl hgk (m * sz + j) (by omega) (by omega)
      omega
/-- Where there is an element there is an address. -/
theorem Lies.shape (h : Lies w sz v n xs) (h0 : 0 < n) : ∃ g o c, v = .slice (some ⟨g, o, none⟩) n c ∧ n ≤ c ∧ g < w.heap.size := by
  rcases h.2 with ⟨_, rfl⟩ | ⟨g, o, c, rfl, hn, _, hg, _⟩
  · exact absurd h0 (Nat.lt_irrefl 0)
  · exact ⟨g, o, c, rfl, hn, hg⟩
theorem run_index_at {t e : TypeId} (ht : P.underlying t = some (.slice e)) (hz : ∀ w, (sizeOf e).run P w = .ok sz w) (g o n c i : Nat) (hi : i < n) (W : World) :
    (Instr.indexAt t (.slice (some ⟨g, o, none⟩) n c) (.int .i64 (i : Int))).run P W = .ok (.pointer (some ⟨g, o + i * sz, none⟩)) W := by
  have h1 : (0 : Int) ≤ (i : Int) ∧ (i : Int) < (n : Int) := by omega
  have hadd : (⟨g, o, none⟩ : Addr).add (i * sz) = ⟨g, o + i * sz, none⟩ := Addr.add_mid ..
  simp [Instr.indexAt, run_underlying ht, asIntOf, hz, h1, go_sem]
  intro hge; omega
theorem run_mid_at {t e : TypeId} (ht : P.underlying t = some (.slice e)) (hz : ∀ w, (sizeOf e).run P w = .ok sz w) (g o n c a b : Nat) (hab : a ≤ b) (hb : b ≤ c) (hac : a < c) (W : World) :
    (Instr.slice t (.slice (some ⟨g, o, none⟩) n c) (some (.int .i64 (a : Int))) (some (.int .i64 (b : Int))) none).run P W = .ok (.slice (some ⟨g, o + a * sz, none⟩) (b - a) (c - a)) W := by
  have hadd : (⟨g, o, none⟩ : Addr).add (a * sz) = ⟨g, o + a * sz, none⟩ := Addr.add_mid ..
  have hca : ¬ c = a := by omega
  simp [Instr.slice, run_underlying ht, Instr.sliceBounds, run_sliceBound, Result.andThen, hz, hab, hb, hca, hadd]
theorem setCells_size (g : Nat) : ∀ (vs : List Value) (o : Nat) (w : World), (w.setCells g o vs).heap.size = w.heap.size
  | [], _, _ => rfl
  | y :: r, o, w => by rw [World.setCells, setCells_size g r]; simp [World.setCell]
theorem setCells_tape (g : Nat) : ∀ (vs : List Value) (o : Nat) (w : World), (w.setCells g o vs).tape = w.tape
  | [], _, _ => rfl
  | y :: r, o, w => by rw [World.setCells, setCells_tape g r]; rfl
theorem grown_setCells (w : World) (g o : Nat) (vs : List Value) : w.grownBy (w.setCells g o vs) (some g) :=
  ⟨World.os_setCells w g o vs, setCells_tape g vs o w, World.output_setCells w g o vs, by rw [setCells_size]; exact Nat.le_refl _, fun _ hk hne => World.heap_setCells_other w g o vs hk (fun e => hne (by rw [e]))⟩
/-- Cells in its midst turned. -/
theorem Lies.setMid {g o c : Nat} (h : Lies w sz (.slice (some ⟨g, o, none⟩) n c) n xs) (k : Nat) (ys : List Value) (hk : k + ys.length ≤ n * sz) :
    Lies (w.setCells g (o + k) ys) sz (.slice (some ⟨g, o, none⟩) n c) n (xs.take k ++ ys ++ xs.drop (k + ys.length)) ∧
      (∀ j, j < ys.length → (w.cell? ⟨g, o + k + j, none⟩).isSome = true) ∧ ∀ j, j < ys.length → w.frozen? ⟨g, o + k + j, none⟩ = false := by
  rcases h.2 with ⟨h0, _⟩ | ⟨g', o', c', he, hn, hc, hg, hr, hth⟩
  · cases h0
  · simp only [Value.slice.injEq, Option.some.injEq, Addr.mk.injEq, and_true, true_and] at he
    obtain ⟨⟨rfl, rfl⟩, rfl⟩ := he
    have hxl := h.1
    have hcl : n * sz ≤ c * sz := Nat.mul_le_mul_right sz hn
    have hc1 : ∀ j, j < ys.length → (w.cell? ⟨g, o + k + j, none⟩).isSome = true := fun j hj => by rw [Nat.add_assoc]; exact (hth _ (by omega)).1
    have htk : (xs.take k).length = k := by rw [List.length_take]; omega
    refine ⟨⟨by rw [List.length_append, List.length_append, htk, List.length_drop]; omega, .inr ⟨g, o, c, rfl, hn, hc, by rw [setCells_size]; exact hg, fun j u hu => ?_, fun j hj => ⟨World.isSome_setCells g ys _ w _ (hth j hj).1, by rw [World.frozen?_setCells]; exact (hth j hj).2⟩⟩⟩, hc1, fun j hj => by rw [Nat.add_assoc]; exact (hth _ (by omega)).2⟩
    by_cases h1 : j < k
    · rw [List.append_assoc, List.getElem?_append_left (by omega), List.getElem?_take_of_lt h1] at hu
      rw [World.cell?_setCells_out g ys (o + k) w ⟨g, o + j, none⟩ (fun _ _ => .inl (by show o + j < _; omega))]
      exact hr j u hu
    · by_cases h2 : j < k + ys.length
      · rw [List.append_assoc, List.getElem?_append_right (by omega), htk, List.getElem?_append_left (by omega)] at hu
        have := World.cell?_setCells_in g ys (o + k) w hc1 (j - k) (by omega)
        rw [show o + k + (j - k) = o + j by omega] at this
        rw [this, ← (List.getElem?_eq_some_iff.1 hu).2]
      · rw [List.getElem?_append_right (by rw [List.length_append]; omega), List.length_append, htk, List.getElem?_drop] at hu
        rw [World.cell?_setCells_out g ys (o + k) w ⟨g, o + j, none⟩ (fun _ _ => .inr (by show o + k + ys.length ≤ o + j; omega))]
        rw [show k + ys.length + (j - (k + ys.length)) = j by omega] at hu
        exact hr j u hu
/-- clear of a slice with something in it. -/
theorem run_clear {t e : TypeId} (ht : P.underlying t = some (.slice e)) (z : Value) (hv : ∀ w, (zeroValue e).run P w = .ok z w) (h1 : ∀ u ∈ (Builtin.zeroCells z.cells n).toList, u.oneCell' = true) (ty : TypeId) (g o c : Nat) (h0 : 0 < n)
    (hc : ∀ j, j < (Builtin.zeroCells z.cells n).toList.length → (w.cell? ⟨g, o + j, none⟩).isSome = true) (hf : ∀ j, j < (Builtin.zeroCells z.cells n).toList.length → w.frozen? ⟨g, o + j, none⟩ = false) :
    (Builtin.clear_ #[t] ty #[.slice (some ⟨g, o, none⟩) n c]).run P w = .ok (.tuple #[]) (w.setCells g o (Builtin.zeroCells z.cells n).toList) := by
  have hst := run_storeCells_cells (P := P) g o (Builtin.zeroCells z.cells n).toList 0 w (by simpa using hc) (by simpa using hf) h1
  simp only [Nat.add_zero] at hst
  cases n with
  | zero => exact absurd h0 (Nat.lt_irrefl 0)
  | succ n => simp [Builtin.clear_, run_underlying ht, hv, hst]
theorem lies_of_owns {base : Nat} {e : TypeId} (h : w.ownsRow base e sz v n xs) : Lies w sz v n xs := by
  refine ⟨h.1, ?_⟩
  rcases h.2 with h2 | ⟨g, c, cur, rfl, _, hg, hn, hc, hcs, ht⟩
  · exact .inl h2
  · have hlt : g < w.heap.size := (Array.getElem?_eq_some_iff.1 hg).1
    refine .inr ⟨g, 0, c, rfl, hn, hc, hlt, fun j u hu => ?_, fun j hj => ?_⟩
    · have := h.cells (g := g) rfl j u hu
      rwa [Addr.add_mid] at this
    · rw [Nat.zero_add, cell_of_row w g j cur e (0, 0) hg]
      exact ⟨by rw [Array.getElem?_eq_getElem (by omega)]; rfl, frozen_of_row w g j cur e hg⟩
end
end Go.Proofs.Ytlmolmmhkddpaaa
