/- Texts of this proof that several statements share, one behind the other. -/
import Derived.Test.YtplajlccnnbifaaGreatDoorJb
import Derived.Lib.ItoaNum
import Derived.Test.YtplajlccnnbifaaGreatDoorJa
import Derived.Test.YtplajlccnnbifaaGreatDoorProg
import Derived.Lib.AppendStr
import Derived.Lib.SplitLaws
import Derived.Lib.SlTrimSet
import Derived.Test.YtplajlccnnbifaaGreatDoorShelf
import Derived.Shelf.Small.Strs
import Derived.Shelf.Strings.SlTrimAscii
import Derived.Shelf.RegionOpenPlain
/- Lists of requests as rows, each with a row of fields of its own: read, kept, one more appended. -/
namespace Go.Proofs.YtplajlccnnbifaaGreatDoor
open Go.RowKit

section
variable {P : Program} {ops : Array Oper} {rest : List Oper} {o : Oper} {a : Act} {w : World} {Q : Exit → Act → World → Prop}
/-- One struct, laid in a block of its own and appended; where it lies then. -/
theorem wpList_addL (hgd : o.guard = none) (t e : TypeId) (s x : Operand) (ho : o.op = .call { callee := .builtin .append, args := #[s, x], argTypes := #[t, t] }) (ht : P.underlying t = some (.slice e)) {k : Nat} (he : EleK P e k) (hk : 0 < k) (base : Nat) (W : World)
    (v : Value) (hs : a.eval s = v) (n : Nat) (xs : List Value) (hown : W.ownsRow base e k v n xs) (cs : Array Value) (hcs : cs.size = k) (h1 : ∀ u ∈ cs.toList, u.oneCell' = true) (hw : w = W.alloc (.cells cs e)) (H : Nat) (hH : W.heap.size = H) (hx : a.eval x = .slice (some ⟨H, 0, none⟩) 1 1)
    (hlen : n < 1000000) (hbase : base ≤ W.heap.size)
    (h : ∀ g cap w', w'.ownsRow base e k (.slice (some ⟨g, 0, none⟩) (n + 1) cap) (n + 1) (xs ++ cs.toList) → W.grownBy w' v.ownBlock → (v.ownBlock = some g ∨ W.heap.size ≤ g) → g < w'.heap.size → wpList P ops Q rest (a.put o.dst (.slice (some ⟨g, 0, none⟩) (n + 1) cap)) w') : wpList P ops Q (o :: rest) a w := by
  subst hw hH
  obtain ⟨i, z, hi, hz, hsz, hby, hzs⟩ := he
  have hr := row_new W cs e
  have hnews : ∀ j u, cs.toList[j]? = some u → (W.alloc (.cells cs e)).cell? ((⟨W.heap.size, 0, none⟩ : Addr).add j) = some u := fun j u hu => by
    rw [Addr.add_mid]
    simp only [Nat.zero_add]
    rw [cell_of_row _ _ j _ _ _ hr]
    simpa using hu
  refine wpList_append_lies _ hgd s x t ho base e i z k i.bytes ht hi hz hsz rfl hzs hk v n xs hs (hown.alloc _) ⟨W.heap.size, 0, none⟩ 1 1 cs.toList hx (by rw [Array.length_toList, hcs, Nat.one_mul]) hnews h1 (by omega) (by simp [maxLen]; omega) ?_ (by rw [alloc_size]; omega) _ rfl ?_
  · have : (n + 1) * i.bytes ≤ 1000000 * 4096 := Nat.mul_le_mul (by omega) hby
    omega
  · intro g cap w' h2 h3 h4 h5
    exact h _ _ w' h2 ⟨h3.os, h3.tape, h3.output, Nat.le_trans (by simp) h3.size, fun k hk hn => (h3.block k (by rw [alloc_size]; omega) hn).trans (heap_alloc_old W _ hk)⟩ (h4.imp id fun h => by rw [h, alloc_size]; omega) h5
end
theorem own_same {w w' : World} {base : Nat} {e : TypeId} {k n : Nat} {v : Value} {xs : List Value} (h : w.ownsRow base e k v n xs) (hb : ∀ j, v.ownBlock = some j → w'.heap[j]? = w.heap[j]?) : w'.ownsRow base e k v n xs := by
  refine ⟨h.1, ?_⟩
  rcases h.2 with h2 | ⟨g, cap, cur, rfl, h3, h4, h5⟩
  · exact .inl h2
  · exact .inr ⟨g, cap, cur, rfl, h3, (hb g rfl).trans h4, h5⟩
theorem FldsAt.same {w w' : World} {V : Value} {fs : List (List UInt8 × List UInt8)} {g : Nat} (h : FldsAt w V fs g) (hb : fs ≠ [] → w'.heap[g]? = w.heap[g]?) : FldsAt w' V fs g :=
  ⟨h.len, h.index, fun i f hf => by
    have hne : fs ≠ [] := fun e => by rw [e] at hf; simp at hf
    obtain ⟨h1, h2⟩ := h.cell i f hf
    exact ⟨by rw [World.cell?_of_block (w := w) (hb hne)]; exact h1, by rw [World.cell?_of_block (w := w) (hb hne)]; exact h2⟩, h.form⟩
theorem flds_nil (w : World) (g : Nat) : FldsAt w (.slice none 0 0) [] g :=
  ⟨fun T w' => by simp [Builtin.len_, run_underlying Tryz.underlying25, Result.andThen, goInt], fun i hi => absurd hi (by simp), fun i f hf => (by simp at hf), ⟨none, 0, rfl⟩⟩

/-- A request's cells; with it: the slice of its fields, and the block where they lie. -/
def rcells (x : Rq × Value × Nat) : List Value := (rqCells x.1.m x.1.p x.1.q x.1.v x.2.1 x.1.body x.1.cl).toList
theorem rcells_len (x : Rq × Value × Nat) : (rcells x).length = 7 := rfl
/-- A slice of requests; K: the blocks where they lie. -/
structure Reqs (w : World) (base : Nat) (K : Nat → Prop) (V : Value) (xs : List (Rq × Value × Nat)) : Prop where
  row : w.ownsRow base 27 7 V xs.length (xs.flatMap rcells)
  own : ∀ k, V.ownBlock = some k → K k
  each : ∀ x ∈ xs, FldsAt w x.2.1 x.1.fs x.2.2 ∧ (x.1.fs = [] ∨ (K x.2.2 ∧ V.ownBlock ≠ some x.2.2))
  old : ∀ k, K k → k < w.heap.size
section
variable {w w' : World} {base : Nat} {K K' : Nat → Prop} {V : Value} {xs : List (Rq × Value × Nat)}
theorem reqs_nil (w : World) (base : Nat) : Reqs w base (fun _ => False) (.slice none 0 0) [] :=
  ⟨World.ownsRow_nil w base _ 7, fun k hk => (by cases hk), fun x hx => (by cases hx), fun k hk => (by cases hk)⟩
theorem Reqs.same (h : Reqs w base K V xs) (hs : w.heap.size ≤ w'.heap.size) (hb : ∀ k, K k → w'.heap[k]? = w.heap[k]?) : Reqs w' base K V xs :=
  ⟨own_same h.row (fun j hj => hb j (h.own j hj)), h.own, fun x hx => by
    obtain ⟨h1, h2⟩ := h.each x hx
    exact ⟨h1.same (fun hne => hb _ (h2.resolve_left hne).1), h2⟩, fun k hk => by have := h.old k hk; omega⟩
theorem Reqs.below (h : Reqs w base K V xs) (hb : Below w.heap.size w w') : Reqs w' base K V xs := h.same hb.size (fun k hk => hb.block k (h.old k hk))
theorem Reqs.mono (h : Reqs w base K V xs) (hk : ∀ k, K k → K' k) (ho : ∀ k, K' k → k < w.heap.size) : Reqs w base K' V xs :=
  ⟨h.row, fun k e => hk k (h.own k e), fun x hx => ⟨(h.each x hx).1, (h.each x hx).2.imp id (fun e => ⟨hk _ e.1, e.2⟩)⟩, ho⟩
/-- One more. -/
theorem Reqs.snoc (h : Reqs w base K V xs) {x : Rq × Value × Nat} {g cap : Nat} (hx : FldsAt w x.2.1 x.1.fs x.2.2) (ha : x.1.fs = [] ∨ (K x.2.2 ∧ V.ownBlock ≠ some x.2.2))
    (hr : w'.ownsRow base 27 7 (.slice (some ⟨g, 0, none⟩) (xs.length + 1) cap) (xs.length + 1) (xs.flatMap rcells ++ rcells x)) (hg : w.grownBy w' V.ownBlock) (hl : V.ownBlock = some g ∨ w.heap.size ≤ g) (hw : g < w'.heap.size) :
    Reqs w' base (fun k => K k ∨ k = g) (.slice (some ⟨g, 0, none⟩) (xs.length + 1) cap) (xs ++ [x]) := by
  have key : ∀ y : Rq × Value × Nat, FldsAt w y.2.1 y.1.fs y.2.2 → (y.1.fs = [] ∨ (K y.2.2 ∧ V.ownBlock ≠ some y.2.2)) →
      FldsAt w' y.2.1 y.1.fs y.2.2 ∧ (y.1.fs = [] ∨ ((K y.2.2 ∨ y.2.2 = g) ∧ (Value.slice (some ⟨g, 0, none⟩) (xs.length + 1) cap).ownBlock ≠ some y.2.2)) := fun y h1 h2 => by
    refine ⟨h1.same fun hne => ?_, h2.imp id fun e => ⟨.inl e.1, fun e2 => ?_⟩⟩
    · obtain ⟨h3, h4⟩ := h2.resolve_left hne
      exact hg.block _ (h.old _ h3) (fun e => h4 e.symm)
    · have e3 : g = y.2.2 := Option.some.inj e2
      rcases hl with hl | hl
      · exact e.2 (by rw [hl, e3])
      · have := h.old _ e.1; omega
  refine ⟨?_, fun k hk => .inr (Option.some.inj hk).symm, fun y hy => ?_, fun k hk => ?_⟩
  · rw [List.length_append, List.length_singleton, List.flatMap_append]
    simpa using hr
  · rcases List.mem_append.1 hy with hy | hy
    · obtain ⟨h1, h2⟩ := h.each y hy
      exact key y h1 h2
    · obtain rfl := List.mem_singleton.1 hy
      exact key y hx ha
  · rcases hk with hk | rfl
    · have := h.old k hk; have := hg.size; omega
    · exact hw
theorem Reqs.len (h : Reqs w base K V xs) (T : TypeId) (W : World) : (Builtin.len_ #[42] T #[V]).run Tryz.prog W = .ok (.int .i64 (xs.length : Int)) W := by
  rcases h.row.2 with ⟨rfl, h0⟩ | ⟨g, cap, cur, rfl, _⟩
  · rw [h0]; simp [Builtin.len_, run_underlying Tryz.underlying42, Result.andThen, goInt]
  · simp [Builtin.len_, run_underlying Tryz.underlying42, Result.andThen, goInt]
/-- Where one lies, and its cells. -/
theorem Reqs.at (h : Reqs w base K V xs) {i : Nat} {x : Rq × Value × Nat} (hx : xs[i]? = some x) :
    ∃ g, K g ∧ (∀ W, (Instr.indexAt 42 V (.int .i64 (i : Int))).run Tryz.prog W = .ok (.pointer (some ⟨g, i * 7, none⟩)) W) ∧ ∀ j u, (rcells x)[j]? = some u → w.cell? ⟨g, i * 7 + j, none⟩ = some u := by
  have hi := (List.getElem?_eq_some_iff.1 hx).1
  rcases h.row.2 with ⟨rfl, h0⟩ | ⟨g, cap, cur, hV, hb, hg, hn, hm, hs, ht⟩
  · omega
  · refine ⟨g, h.own g (by rw [hV]; rfl), fun W => ?_, fun j u hu => ?_⟩
    · rw [hV]
      have := run_index_at (P := Tryz.prog) Tryz.underlying42 (fun w => Tryz.sizeOf27 w) g 0 xs.length cap i hi W
      rwa [Nat.zero_add] at this
    · have hj : j < 7 := by have := (List.getElem?_eq_some_iff.1 hu).1; rwa [rcells_len] at this
      have e := flat_get rcells_len xs i j x hx hj
      rw [hu, ← ht] at e
      rw [cell_of_row w g _ cur 27 (0, 0) hg]
      rw [List.getElem?_take] at e
      split at e
      · simpa using e
      · cases e
end
end Go.Proofs.YtplajlccnnbifaaGreatDoor
/- A request's bytes: lines laid end to end, and what is parsed of them. -/
namespace Go.Proofs.YtplajlccnnbifaaGreatDoor
open Go.RowKit

/-- Lines, each with its end. -/
def joinE : List (List UInt8) → List UInt8
  | [] => []
  | l :: r => l ++ 13 :: 10 :: joinE r
/-- Lines with ends between them. -/
def joinL : List UInt8 → List (List UInt8) → List UInt8
  | l, [] => l
  | l, k :: r => l ++ 13 :: 10 :: joinL k r
theorem ln_cut (cur r : List UInt8) : lnsF cur (13 :: 10 :: r) = cur :: lnsF [] r := by rw [lnsF, if_pos ⟨rfl, rfl⟩]
theorem ln_on {cur r : List UInt8} {c d : UInt8} (h : c ≠ 13) : lnsF cur (c :: d :: r) = lnsF (cur ++ [c]) (d :: r) := by rw [lnsF, if_neg (fun e => h e.1)]
theorem lns_one : ∀ (l cur : List UInt8), 13 ∉ l → lnsF cur l = [cur ++ l]
  | [], cur, _ => by rw [lnsF, List.append_nil]
  | [c], cur, _ => by rw [lnsF]
  | c :: d :: r, cur, h => by
    rw [ln_on (fun e => h (by rw [e]; exact List.mem_cons_self)), lns_one (d :: r) _ (fun e => h (List.mem_cons_of_mem _ e)), List.append_assoc]; rfl
theorem lns_more (t : List UInt8) : ∀ (l cur : List UInt8), 13 ∉ l → lnsF cur (l ++ 13 :: 10 :: t) = (cur ++ l) :: lnsF [] t
  | [], cur, _ => by rw [List.nil_append, ln_cut, List.append_nil]
  | [c], cur, h => by
    have hc : c ≠ 13 := fun e => h (by rw [e]; exact List.mem_cons_self)
    show lnsF cur (c :: 13 :: 10 :: t) = _
    rw [ln_on hc, ln_cut]
  | c :: d :: r, cur, h => by
    have hc : c ≠ 13 := fun e => h (by rw [e]; exact List.mem_cons_self)
    show lnsF cur (c :: d :: (r ++ 13 :: 10 :: t)) = _
    rw [ln_on hc]
    have := lns_more t (d :: r) (cur ++ [c]) (fun e => h (List.mem_cons_of_mem _ e))
    rw [show d :: (r ++ 13 :: 10 :: t) = (d :: r) ++ 13 :: 10 :: t from rfl, this, List.append_assoc]; rfl
theorem lns_join : ∀ (ls : List (List UInt8)) (l : List UInt8), 13 ∉ l → (∀ k ∈ ls, 13 ∉ k) → lnsF [] (joinL l ls) = l :: ls
  | [], l, h, _ => by rw [joinL, lns_one l [] h, List.nil_append]
  | k :: ls, l, h, hk => by
    rw [joinL, lns_more _ l [] h, List.nil_append, lns_join ls k (hk k List.mem_cons_self) (fun j hj => hk j (List.mem_cons_of_mem _ hj))]
theorem end_skip (t : List UInt8) : ∀ l : List UInt8, 13 ∉ l → endF (l ++ t) = (endF t).map (· + l.length)
  | [], _ => by rw [List.nil_append]; cases endF t <;> rfl
  | c :: l, h => by
    have hc : c ≠ 13 := fun e => h (by rw [e]; exact List.mem_cons_self)
    have ih := end_skip t l (fun e => h (List.mem_cons_of_mem _ e))
    rw [List.cons_append, endF, if_neg, ih]
    · cases endF t with
      | none => rfl
      | some n => exact congrArg some (by simp only [List.length_cons]; omega)
    · intro e
      rw [List.take_succ_cons] at e
      injection e with e1 _
      exact hc e1
theorem end_next {c : UInt8} (r : List UInt8) (hc : c ≠ 13) : endF (13 :: 10 :: c :: r) = (endF (c :: r)).map (· + 2) := by
  rw [endF, if_neg, endF, if_neg]
  · cases endF (c :: r) <;> rfl
  · intro e
    rw [List.take_succ_cons] at e
    injection e with e1 _
    exact absurd e1 (by decide)
  · intro e
    rw [List.take_succ_cons, List.take_succ_cons, List.take_succ_cons] at e
    injection e with _ e1
    injection e1 with _ e2
    injection e2 with e3 _
    exact hc e3
theorem end_stop (x : List UInt8) : endF (13 :: 10 :: 13 :: 10 :: x) = some 4 := by rw [endF, if_pos (show List.take 4 (13 :: 10 :: 13 :: 10 :: x) = [13, 10, 13, 10] from rfl)]
theorem end_join (x : List UInt8) : ∀ (ls : List (List UInt8)) (l : List UInt8), 13 ∉ l → (∀ k ∈ ls, 13 ∉ k ∧ k ≠ []) → endF (joinL l ls ++ 13 :: 10 :: 13 :: 10 :: x) = some ((joinL l ls).length + 4)
  | [], l, h, _ => by
    rw [joinL, end_skip _ l h, end_stop]
    simp only [Option.map_some]; congr 1; omega
  | k :: ls, l, h, hk => by
    obtain ⟨h1, h2⟩ := hk k List.mem_cons_self
    have ih := end_join x ls k h1 (fun j hj => hk j (List.mem_cons_of_mem _ hj))
    cases k with
    | nil => exact absurd rfl h2
    | cons c k =>
      have hc : c ≠ 13 := fun e => h1 (by rw [e]; exact List.mem_cons_self)
      obtain ⟨r, hr⟩ : ∃ r, joinL (c :: k) ls = c :: r := by
        cases ls with
        | nil => exact ⟨k, rfl⟩
        | cons a b => exact ⟨k ++ 13 :: 10 :: joinL a b, rfl⟩
      rw [hr] at ih
      rw [joinL, hr, List.append_assoc, end_skip _ l h]
      show (endF (13 :: 10 :: c :: (r ++ 13 :: 10 :: 13 :: 10 :: x))).map (· + l.length) = _
      rw [end_next _ hc]
      have e : endF (c :: (r ++ 13 :: 10 :: 13 :: 10 :: x)) = some ((c :: r).length + 4) := ih
      rw [e]
      simp only [Option.map_some, List.length_append, List.length_cons]
      congr 1; omega

/-! Numerals. -/
theorem numGo_append (b : List UInt8) : ∀ (a : List UInt8) (n : Nat), numGo n (a ++ b) = (numGo n a).bind fun m => numGo m b
  | [], n => rfl
  | c :: a, n => by
    rw [List.cons_append, numGo, numGo]
    split
    · exact numGo_append b a _
    · rfl
theorem num_dec (u : Nat) : u ≤ 5000 → numGo 0 (Lib.decDigits u) = some u := by
  induction u using Nat.strongRecOn with
  | _ u ih =>
    intro hu
    have dig : ∀ d, d < 10 → (UInt8.ofNat (48 + d)).toNat = 48 + d := fun d hd => by rw [UInt8.toNat_ofNat']; exact Nat.mod_eq_of_lt (by omega)
    rw [Lib.decDigits]
    split
    · rename_i h
      rw [numGo, dig u h, if_pos (by omega), numGo]
      congr 1; omega
    · rename_i h
      rw [numGo_append, ih (u / 10) (by omega) (by omega)]
      show numGo (u / 10) [UInt8.ofNat (48 + u % 10)] = some u
      rw [numGo, dig (u % 10) (by omega), if_pos (by omega), numGo]
      congr 1; omega
theorem dec_digits (u : Nat) : ∀ c ∈ Lib.decDigits u, 48 ≤ c.toNat ∧ c.toNat ≤ 57 := by
  induction u using Nat.strongRecOn with
  | _ u ih =>
    have dig : ∀ d, d < 10 → (UInt8.ofNat (48 + d)).toNat = 48 + d := fun d hd => by rw [UInt8.toNat_ofNat']; exact Nat.mod_eq_of_lt (by omega)
    intro c hc
    rw [Lib.decDigits] at hc
    split at hc
    · rename_i h
      obtain rfl := List.mem_singleton.1 hc
      rw [dig u h]; omega
    · rename_i h
      rcases List.mem_append.1 hc with hc | hc
      · exact ih (u / 10) (by omega) c hc
      · obtain rfl := List.mem_singleton.1 hc
        rw [dig (u % 10) (by omega)]; omega
theorem dec_ne (u : Nat) : Lib.decDigits u ≠ [] := by
  rw [Lib.decDigits]
  split
  · simp
  · simp
theorem dec_len : ∀ (k u : Nat), u < 10 ^ k → (Lib.decDigits u).length ≤ max k 1
  | 0, u, h => by
    rw [Lib.decDigits, dif_pos (by simpa using Nat.lt_of_lt_of_le h (by decide))]; simp
  | k + 1, u, h => by
    rw [Lib.decDigits]
    split
    · rw [List.length_singleton]; omega
    · rename_i h10
      have := dec_len k (u / 10) (by rw [Nat.pow_succ] at h; omega)
      have hk : 1 ≤ k := by
        rcases Nat.eq_zero_or_pos k with h0 | h0
        · subst h0; rw [Nat.zero_add, Nat.pow_one] at h; omega
        · exact h0
      simp only [List.length_append, List.length_singleton]; omega
theorem itoa_nat (k : Nat) : Lib.itoa (k : Int) = Lib.decDigits k := by
  unfold Lib.itoa
  rw [if_neg (by omega)]; rfl
theorem digit_ok {c : UInt8} (h : 48 ≤ c.toNat ∧ c.toNat ≤ 57) : badB c = false ∧ blankB c = false := by
  constructor
  · unfold badB; rw [Bool.and_eq_false_iff]; right; rw [Bool.or_eq_false_iff]; exact ⟨decide_eq_false (by omega), by rw [beq_eq_false_iff_ne]; omega⟩
  · unfold blankB; rw [Bool.or_eq_false_iff]; exact ⟨by rw [beq_eq_false_iff_ne]; omega, by rw [beq_eq_false_iff_ne]; omega⟩
theorem dec_clean (u : Nat) : Clean (Lib.decDigits u) ∧ (Lib.decDigits u).any badB = false := by
  have h := dec_digits u
  refine ⟨⟨fun c r e => (digit_ok (h c (by rw [e]; exact List.mem_cons_self))).2, fun r c e => (digit_ok (h c (by rw [e]; simp))).2⟩, ?_⟩
  rw [List.any_eq_false]
  intro c hc
  rw [(digit_ok (h c hc)).1]; simp

/-! A request that may be. -/
/-- A field as a line. -/
def fieldL (f : List UInt8 × List UInt8) : List UInt8 := f.1 ++ 58 :: 32 :: f.2
def tgtL (p q : List UInt8) : List UInt8 := if q = [] then p else (p ++ [63]) ++ q
def hereF : List UInt8 × List UInt8 := ([72, 111, 115, 116], [104, 101, 114, 101])
def lenF (k : Nat) : List UInt8 × List UInt8 := ([67, 111, 110, 116, 101, 110, 116, 45, 76, 101, 110, 103, 116, 104], Lib.decDigits k)
/-- A field that says nothing of a request. -/
structure Plain (f : List UInt8 × List UInt8) : Prop where
  parse : parseF (f.1 ++ 58 :: f.2) = (f.1, f.2, true)
  host : alikeF f.1 hostL = false
  clen : alikeF f.1 clL = false
  te : alikeF f.1 teL = false
  co : alikeF f.1 coL = false
theorem tok_cr {n : List UInt8} (h : tokF n = true) : 13 ∉ n ∧ n ≠ [] := by
  unfold tokF at h
  rw [Bool.and_eq_true, List.all_eq_true, decide_eq_true_eq] at h
  exact ⟨fun e => absurd (h.1 13 e) (by decide), fun e => by rw [e] at h; simp at h⟩
theorem bad_cr {v : List UInt8} (h : v.any badB = false) : 13 ∉ v := fun e => by
  rw [List.any_eq_false] at h
  exact h 13 e (by decide)
theorem field_line {n v : List UInt8} (h : tokF n = true) (hv : v.any badB = false) (hc : Clean v) : parseF (fieldL (n, v)) = (n, v, true) ∧ 13 ∉ fieldL (n, v) ∧ fieldL (n, v) ≠ [] := by
  have hb : (32 :: v).any badB = false := by rw [List.any_cons, hv]; rfl
  have e : bareF (32 :: v) = v := by
    have := bare_front (p := [32]) (s := v) (by decide)
    rw [show (32 :: v) = [32] ++ v from rfl, this, clean_self hc]
  refine ⟨?_, ?_, ?_⟩
  · show parseF (n ++ 58 :: (32 :: v)) = _
    rw [parse_of h hb, e]
  · show 13 ∉ n ++ 58 :: 32 :: v
    rw [List.mem_append]
    rintro (h1 | h1)
    · exact (tok_cr h).1 h1
    · rcases List.mem_cons.1 h1 with h2 | h2
      · exact absurd h2 (by decide)
      · rcases List.mem_cons.1 h2 with h3 | h3
        · exact absurd h3 (by decide)
        · exact bad_cr hv h3
  · show n ++ 58 :: 32 :: v ≠ []
    simp
theorem Plain.line {f : List UInt8 × List UInt8} (h : Plain f) : parseF (fieldL f) = (f.1, f.2, true) ∧ 13 ∉ fieldL f ∧ fieldL f ≠ [] := by
  obtain ⟨h1, h2, h3, _⟩ := parse_true h.parse
  exact field_line h1 h3 h2
theorem here_line : parseF (fieldL hereF) = ([72, 111, 115, 116], [104, 101, 114, 101], true) ∧ 13 ∉ fieldL hereF ∧ fieldL hereF ≠ [] :=
  field_line (n := [72, 111, 115, 116]) (v := [104, 101, 114, 101]) (by decide) (by decide) ⟨fun c r e => by cases e; decide, fun r c e => by
    have : [104, 101, 114, 101] = ([104, 101, 114] : List UInt8) ++ [101] := rfl
    rw [this] at e
    have := (List.append_inj' e rfl).2
    cases this; decide⟩
theorem len_line (k : Nat) : parseF (fieldL (lenF k)) = ((lenF k).1, Lib.decDigits k, true) ∧ 13 ∉ fieldL (lenF k) ∧ fieldL (lenF k) ≠ [] :=
  field_line (by decide) (dec_clean k).2 (dec_clean k).1
theorem lineH_plain {f : List UInt8 × List UInt8} (h : Plain f) (s : Hs) : lineH s (fieldL f) = some { s with fs := s.fs ++ [f] } := by
  have hp := h.line.1
  unfold lineH
  rw [hp]
  dsimp only
  rw [if_neg (by simp), if_neg (by rw [h.te]; simp), if_neg (by rw [h.clen]; simp)]
  simp only [h.host, h.te, h.clen, h.co, Bool.toNat_false, Nat.add_zero, Bool.false_and, Bool.or_false]
  simp
theorem lineH_here (s : Hs) : lineH s (fieldL hereF) = some { s with fs := s.fs ++ [hereF], hosts := s.hosts + 1 } := by
  have hp := here_line.1
  have a1 : alikeF [72, 111, 115, 116] hostL = true := by decide
  have a2 : alikeF [72, 111, 115, 116] teL = false := by decide
  have a3 : alikeF [72, 111, 115, 116] clL = false := by decide
  have a4 : alikeF [72, 111, 115, 116] coL = false := by decide
  unfold lineH
  rw [hp]
  dsimp only
  rw [if_neg (by simp), if_neg (by rw [a2]; simp), if_neg (by rw [a3]; simp)]
  simp only [a1, a2, a3, a4, Bool.toNat_false, Bool.toNat_true, Nat.add_zero, Bool.false_and, Bool.or_false]
  simp [hereF]
theorem lineH_len {k : Nat} (hk : k ≤ 5000) (s : Hs) (hs : s.len = none) : lineH s (fieldL (lenF k)) = some { s with fs := s.fs ++ [lenF k], len := some k, text := Lib.decDigits k } := by
  have hp := (len_line k).1
  have a1 : alikeF (lenF k).1 hostL = false := by show alikeF [67, 111, 110, 116, 101, 110, 116, 45, 76, 101, 110, 103, 116, 104] hostL = false; decide
  have a2 : alikeF (lenF k).1 teL = false := by show alikeF [67, 111, 110, 116, 101, 110, 116, 45, 76, 101, 110, 103, 116, 104] teL = false; decide
  have a3 : alikeF (lenF k).1 clL = true := by show alikeF [67, 111, 110, 116, 101, 110, 116, 45, 76, 101, 110, 103, 116, 104] clL = true; decide
  have a4 : alikeF (lenF k).1 coL = false := by show alikeF [67, 111, 110, 116, 101, 110, 116, 45, 76, 101, 110, 103, 116, 104] coL = false; decide
  have hn : numF (Lib.decDigits k) = some k := by unfold numF; rw [if_neg (dec_ne k), num_dec k hk]
  unfold lineH
  rw [hp]
  dsimp only
  rw [if_neg (by simp), if_neg (by rw [a2]; simp), if_neg (by rw [hn, hs]; simp)]
  simp only [a1, a2, a3, a4, hn, Bool.toNat_false, Nat.add_zero, Bool.false_and, Bool.or_false]
  simp [lenF]
theorem linesH_plain (r : List (List UInt8)) : ∀ (fs : List (List UInt8 × List UInt8)) (s : Hs), (∀ f ∈ fs, Plain f) → linesH s (fs.map fieldL ++ r) = linesH { s with fs := s.fs ++ fs } r
  | [], s, _ => by simp
  | f :: fs, s, h => by
    rw [List.map_cons, List.cons_append, linesH, lineH_plain (h f List.mem_cons_self)]
    dsimp only
    rw [linesH_plain r fs _ (fun j hj => h j (List.mem_cons_of_mem _ hj))]
    simp
/-- A request that may be. -/
structure MayR (r : Rq) : Prop where
  m : tokF r.m = true
  path : ∃ q, targetF r.p = (r.p, q, true)
  query : (targetF ((r.p ++ [63]) ++ r.q)).2.2 = true
  body : r.body.length ≤ 4096
  most : r.fs.length ≤ 30
  plain : ∀ f ∈ r.fs, Plain f
def fsLen (fs : List (List UInt8 × List UInt8)) : Nat := (fs.map fun f => f.1.length + f.2.length + 4).sum
theorem target_may {r : Rq} (h : MayR r) : targetF (tgtL r.p r.q) = (r.p, r.q, true) ∧ 63 ∉ r.p := by
  obtain ⟨q0, hp⟩ := h.path
  obtain ⟨h1, h2, _, h4, h5, _⟩ := target_true hp
  refine ⟨?_, h4⟩
  unfold tgtL
  split
  · rename_i hq
    rw [hq]
    exact target_path h1 h5 h2 h4
  · obtain ⟨⟨a, b, c⟩, hx⟩ : ∃ x, targetF ((r.p ++ [63]) ++ r.q) = x := ⟨_, rfl⟩
    have hq := h.query
    rw [hx] at hq
    dsimp only at hq
    subst hq
    obtain ⟨_, _, _, _, _, _, _, hl, ho⟩ := target_true hx
    have hoq := (okT_mark _ r.p r.q (Nat.le_refl _) h4 (by rw [List.append_assoc] at ho; exact ho)).2
    exact target_query h1 (by simp at hl; omega) h2 hoq h4
/-- The lines of a request's head behind the first one. -/
def linesR (r : Rq) : List (List UInt8) := fieldL hereF :: (r.fs.map fieldL ++ [fieldL (lenF r.body.length)])
def lineR (r : Rq) : List UInt8 := r.m ++ 32 :: (tgtL r.p r.q ++ http1)
def bytesR (r : Rq) : List UInt8 := joinL (lineR r) (linesR r) ++ 13 :: 10 :: 13 :: 10 :: r.body
def wantR (r : Rq) : Rq := ⟨r.m, r.p, r.q, 11, hereF :: (r.fs ++ [lenF r.body.length]), r.body, false⟩
theorem line_may {r : Rq} (h : MayR r) : lineF (lineR r) = (r.m, tgtL r.p r.q, 11, true) ∧ 13 ∉ lineR r := by
  obtain ⟨hv, hne⟩ := target_vis (target_may h).1
  refine ⟨?_, ?_⟩
  · have := lineF_of h.m hv hne (.inr rfl : http1 = http0 ∨ http1 = http1)
    rw [if_neg (by decide)] at this
    exact this
  · show 13 ∉ r.m ++ 32 :: (tgtL r.p r.q ++ http1)
    rw [List.mem_append]
    rintro (h1 | h1)
    · exact (tok_cr h.m).1 h1
    · rcases List.mem_cons.1 h1 with h2 | h2
      · exact absurd h2 (by decide)
      · rcases List.mem_append.1 h2 with h3 | h3
        · rw [List.all_eq_true] at hv; exact absurd (hv 13 h3) (by decide)
        · exact absurd h3 (by decide)
theorem head_may {r : Rq} (h : MayR r) : headL (lineR r :: linesR r) = .ok ⟨r.m, r.p, r.q, 11, (wantR r).fs, [], false⟩ (some r.body.length) := by
  have hl := (line_may h).1
  have ht := (target_may h).1
  have hmost := h.most
  have hbody := h.body
  have hls : linesH ⟨[], 0, 0, none, [], ((lineF (lineR r)).2.2.1 == 10)⟩ (linesR r) = some ⟨hereF :: (r.fs ++ [lenF r.body.length]), 1, 0, some r.body.length, Lib.decDigits r.body.length, false⟩ := by
    rw [hl]
    unfold linesR
    rw [linesH, lineH_here]
    dsimp only
    rw [linesH_plain _ _ _ h.plain, linesH, lineH_len (by omega) _ rfl]
    dsimp only
    rw [linesH]
    simp
  unfold headL
  dsimp only
  rw [hls, hl]
  dsimp only
  rw [ht, if_neg (by unfold linesR; simp; omega), if_neg (by simp)]
  dsimp only
  rw [if_neg (by simp), if_neg (by simp), if_neg (by simpa using hbody)]
  rfl
theorem joinL_len : ∀ (ls : List (List UInt8)) (l : List UInt8), (joinL l ls).length = l.length + (ls.map fun k => k.length + 2).sum
  | [], l => by simp [joinL]
  | k :: ls, l => by
    rw [joinL, List.length_append, List.length_cons, List.length_cons, joinL_len ls k, List.map_cons, List.sum_cons]; omega
theorem fields_len : ∀ fs : List (List UInt8 × List UInt8), ((fs.map fieldL).map fun k => k.length + 2).sum = fsLen fs
  | [] => rfl
  | f :: fs => by
    have ih := fields_len fs
    unfold fsLen at ih ⊢
    rw [List.map_cons, List.map_cons, List.sum_cons, ih, List.map_cons, List.sum_cons]
    show (f.1 ++ 58 :: 32 :: f.2).length + 2 + _ = _
    rw [List.length_append, List.length_cons, List.length_cons]; omega
theorem head_len {r : Rq} (h : MayR r) (hn : r.m.length + r.p.length + r.q.length + fsLen r.fs ≤ 1900) : (joinL (lineR r) (linesR r)).length + 4 ≤ 2048 := by
  rw [joinL_len]
  have hd : (Lib.decDigits r.body.length).length ≤ 4 := by
    have := dec_len 4 r.body.length (by have := h.body; omega)
    omega
  have h1 : (lineR r).length ≤ r.m.length + r.p.length + r.q.length + 11 := by
    unfold lineR tgtL
    split
    · simp [http1]; omega
    · simp [http1]; omega
  have h2 : ((linesR r).map fun k => k.length + 2).sum = 12 + fsLen r.fs + (18 + (Lib.decDigits r.body.length).length) := by
    unfold linesR
    rw [List.map_cons, List.sum_cons, List.map_append, List.sum_append, fields_len]
    simp [fieldL, hereF, lenF]; omega
  omega
/-- A request's bytes are parsed as it is; what stands behind is left. -/
theorem step_may {r : Rq} (h : MayR r) (hn : r.m.length + r.p.length + r.q.length + fsLen r.fs ≤ 1900) (x : List UInt8) : stepS (bytesR r ++ x) = .req (wantR r) x := by
  have hcr := (line_may h).2
  have hls : ∀ k ∈ linesR r, 13 ∉ k ∧ k ≠ [] := by
    intro k hk
    unfold linesR at hk
    rcases List.mem_cons.1 hk with rfl | hk
    · exact here_line.2
    · rcases List.mem_append.1 hk with hk | hk
      · obtain ⟨f, hf, rfl⟩ := List.mem_map.1 hk
        exact (h.plain f hf).line.2
      · obtain rfl := List.mem_singleton.1 hk
        exact (len_line _).2
  have he : endF (bytesR r ++ x) = some ((joinL (lineR r) (linesR r)).length + 4) := by
    unfold bytesR
    rw [List.append_assoc]
    exact end_join (r.body ++ x) (linesR r) (lineR r) hcr hls
  have hlen := head_len h hn
  have htk : (bytesR r ++ x).take ((joinL (lineR r) (linesR r)).length + 4 - 4) = joinL (lineR r) (linesR r) := by
    unfold bytesR
    rw [Nat.add_sub_cancel, List.append_assoc, List.take_left]
  have hdr : (bytesR r ++ x).drop ((joinL (lineR r) (linesR r)).length + 4) = r.body ++ x := by
    unfold bytesR
    rw [List.append_assoc, List.drop_append, List.drop_of_length_le (by omega), Nat.add_sub_cancel_left]; rfl
  unfold stepS
  rw [he]
  dsimp only
  rw [if_neg (by omega), htk, hdr]
  unfold headR
  rw [lns_join (linesR r) (lineR r) hcr (fun k hk => (hls k hk).1), head_may h]
  dsimp only
  unfold bodyS
  dsimp only
  rw [if_neg (by rw [List.length_append]; omega), List.take_left, List.drop_left]
  rfl
theorem next_may {r : Rq} (h : MayR r) (hn : r.m.length + r.p.length + r.q.length + fsLen r.fs ≤ 1900) (x : List UInt8) : PSt.next ⟨bytesR r ++ x, 0⟩ = (some (wantR r), ⟨x, 0⟩) := by
  unfold PSt.next
  rw [if_pos rfl]
  dsimp only
  rw [step_may h hn]
end Go.Proofs.YtplajlccnnbifaaGreatDoor
/- What is parsed of the texts that the statements name; what is told behind what is wrong. (mkrm3.py writes it.) -/
namespace Go.Proofs.YtplajlccnnbifaaGreatDoor
open Go.RowKit
set_option maxRecDepth 100000

def firstL : List UInt8 := [71, 69, 84, 32, 47, 102, 105, 114, 115, 116, 32, 72, 84, 84, 80, 47, 49, 46, 48, 13, 10, 13, 10]
theorem first_step : stepS firstL = .req ⟨[71, 69, 84], [47, 102, 105, 114, 115, 116], [], 10, [], [], true⟩ [] := by rfl
def get10L : List UInt8 := [71, 69, 84, 32, 47, 32, 72, 84, 84, 80, 47, 49, 46, 48, 13, 10, 13, 10]
theorem get10_step : stepS get10L = .req ⟨[71, 69, 84], [47], [], 10, [], [], true⟩ [] := by rfl
def wakeL : List UInt8 := [71, 69, 84, 32, 47, 97, 63, 98, 32, 72, 84, 84, 80, 47, 49, 46, 49, 13, 10, 72, 111, 115, 116, 58, 32, 120, 13, 10, 13, 10, 71, 69, 84]
theorem wake_step : stepS wakeL = .req ⟨[71, 69, 84], [47, 97], [98], 11, [([72, 111, 115, 116], [120])], [], false⟩ [71, 69, 84] := by rfl
theorem wake_more : stepS [71, 69, 84] = .more := by rfl
def pstL : List UInt8 := [80, 79, 83, 84, 32, 47, 32, 72, 84, 84, 80, 47, 49, 46, 49, 13, 10, 72, 111, 115, 116, 58, 32, 120, 13, 10, 67, 111, 110, 116, 101, 110, 116, 45, 76, 101, 110, 103, 116, 104, 58, 32, 50, 13, 10, 13, 10, 104, 105]
theorem post_step : stepS pstL = .req ⟨[80, 79, 83, 84], [47], [], 11, [([72, 111, 115, 116], [120]), ([67, 111, 110, 116, 101, 110, 116, 45, 76, 101, 110, 103, 116, 104], [50])], [104, 105], false⟩ [] := by rfl
def k_aL : List UInt8 := [71, 69, 84, 32, 47, 32, 72, 84, 84, 80, 47, 49, 46, 49, 13, 10, 13, 10]
theorem k_a_step : stepS k_aL = .bad 400 := by rfl
def k_bL : List UInt8 := [71, 69, 84, 32, 47, 32, 72, 84, 84, 80, 47, 49, 46, 48, 13, 10, 67, 111, 110, 116, 101, 110, 116, 45, 76, 101, 110, 103, 116, 104, 58, 32, 53, 48, 48, 48, 13, 10, 13, 10]
theorem k_b_step : stepS k_bL = .bad 413 := by rfl
def k_cL : List UInt8 := [71, 69, 84, 32, 47, 32, 72, 84, 84, 80, 47, 49, 46, 49, 13, 10, 72, 111, 115, 116, 58, 32, 120, 13, 10, 72, 111, 115, 116, 58, 32, 120, 13, 10, 13, 10]
theorem k_c_step : stepS k_cL = .bad 400 := by rfl
def k_dL : List UInt8 := [71, 69, 84, 32, 47, 32, 72, 84, 84, 80, 47, 49, 46, 49, 13, 10, 72, 111, 115, 116, 58, 32, 120, 13, 10, 84, 114, 97, 110, 115, 102, 101, 114, 45, 69, 110, 99, 111, 100, 105, 110, 103, 58, 32, 99, 104, 117, 110, 107, 101, 100, 13, 10, 67, 111, 110, 116, 101, 110, 116, 45, 76, 101, 110, 103, 116, 104, 58, 32, 49, 13, 10, 13, 10]
theorem k_d_step : stepS k_dL = .bad 400 := by rfl
def k_eL : List UInt8 := [71, 69, 84, 32, 47, 32, 72, 84, 84, 80, 47, 49, 46, 49, 13, 10, 72, 111, 115, 116, 58, 32, 120, 13, 10, 67, 111, 110, 116, 101, 110, 116, 45, 76, 101, 110, 103, 116, 104, 58, 32, 53, 13, 10, 67, 111, 110, 116, 101, 110, 116, 45, 76, 101, 110, 103, 116, 104, 58, 32, 48, 53, 13, 10, 13, 10]
theorem k_e_step : stepS k_eL = .bad 400 := by rfl
def k_fL : List UInt8 := [71, 69, 84, 32, 47, 32, 72, 84, 84, 80, 47, 49, 46, 49, 13, 10, 72, 111, 115, 116, 58, 32, 120, 13, 10, 67, 111, 110, 116, 101, 110, 116, 45, 76, 101, 110, 103, 116, 104, 58, 32, 53, 44, 32, 53, 13, 10, 13, 10]
theorem k_f_step : stepS k_fL = .bad 400 := by rfl
def k_gL : List UInt8 := [71, 69, 84, 32, 47, 32, 72, 84, 84, 80, 47, 49, 46, 49, 13, 10, 72, 111, 115, 116, 58, 32, 120, 13, 10, 97, 58, 32, 98, 13, 10, 32, 99, 13, 10, 13, 10]
theorem k_g_step : stepS k_gL = .bad 400 := by rfl
def k_hL : List UInt8 := [71, 69, 84, 32, 47, 32, 72, 84, 84, 80, 47, 49, 46, 49, 13, 10, 72, 111, 115, 116, 58, 32, 120, 13, 10, 84, 114, 97, 110, 115, 102, 101, 114, 45, 69, 110, 99, 111, 100, 105, 110, 103, 58, 32, 103, 122, 105, 112, 13, 10, 13, 10]
theorem k_h_step : stepS k_hL = .bad 400 := by rfl
def k_iL : List UInt8 := [71, 69, 84, 32, 47, 32, 72, 84, 84, 80, 47, 49, 46, 49, 13, 10, 72, 111, 115, 116, 58, 32, 120, 13, 10, 67, 111, 110, 116, 101, 110, 116, 45, 76, 101, 110, 103, 116, 104, 58, 32, 57, 57, 57, 57, 57, 57, 57, 57, 57, 57, 57, 57, 57, 57, 57, 57, 57, 57, 57, 57, 57, 57, 57, 57, 57, 57, 13, 10, 13, 10]
theorem k_i_step : stepS k_iL = .bad 413 := by rfl
def k_mL : List UInt8 := [71, 69, 84, 32, 47, 32, 72, 84, 84, 80, 47, 49, 46, 49, 13, 10, 72, 111, 115, 116, 58, 32, 120, 13, 10, 84, 114, 97, 110, 115, 102, 101, 114, 45, 69, 110, 99, 111, 100, 105, 110, 103, 58, 32, 67, 104, 117, 110, 107, 101, 100, 13, 10, 13, 10, 120, 13, 10]
theorem k_m_step : stepS k_mL = .bad 400 := by rfl
theorem end_none {l : List UInt8} (h : 13 ∉ l) : endF l = none := by
  have := end_skip [] l h
  rw [List.append_nil] at this
  rw [this]; rfl
theorem xs_step (n : Nat) : stepS (List.replicate n 120) = if 2048 ≤ n then .bad 431 else .more := by
  unfold stepS
  rw [end_none (fun h => by have := List.eq_of_mem_replicate h; exact absurd this (by decide)), List.length_replicate]
theorem next_bad {s : List UInt8} {c : Nat} (h : stepS s = .bad c) : PSt.next ⟨s, 0⟩ = (none, ⟨[], c⟩) := by
  unfold PSt.next
  rw [if_pos rfl]
  dsimp only
  rw [h]
theorem next_more {s : List UInt8} (h : stepS s = .more) : PSt.next ⟨s, 0⟩ = (none, ⟨s, 0⟩) := by
  unfold PSt.next
  rw [if_pos rfl]
  dsimp only
  rw [h]
theorem next_req {s x : List UInt8} {r : Rq} (h : stepS s = .req r x) : PSt.next ⟨s, 0⟩ = (some r, ⟨x, 0⟩) := by
  unfold PSt.next
  rw [if_pos rfl]
  dsimp only
  rw [h]
theorem next_stuck {p : PSt} (h : p.bad ≠ 0) : p.next = (none, p) := by unfold PSt.next; rw [if_neg h]
theorem feed_stuck {p : PSt} (h : p.bad ≠ 0) (s : List UInt8) : p.feed s = p := by unfold PSt.feed; rw [if_neg h]
/-- Asked till nothing is there: what is told then. -/
theorem drains_told {p p' : PSt} {l : List Rq} (h : Drains p l p') : p.bad = 0 → p'.bad ≠ 0 → Code p'.bad ∧ p'.buf = [] := by
  induction h with
  | @stop p p' h =>
    intro hb hb'
    unfold PSt.next at h
    rw [if_pos hb] at h
    cases hs : stepS p.buf with
    | more => rw [hs] at h; cases h; exact absurd hb hb'
    | bad c => rw [hs] at h; cases h; exact ⟨step_codes hs, rfl⟩
    | req r x => rw [hs] at h; cases h
  | @more p p1 p' r l h hd ih =>
    intro hb hb'
    exact ih (next_len h).2.1 hb'
theorem drains_len {p p' : PSt} {l : List Rq} (h : Drains p l p') : l.length + p'.buf.length ≤ p.buf.length := by
  induction h with
  | @stop p p' h =>
    unfold PSt.next at h
    by_cases hb : p.bad = 0
    · rw [if_pos hb] at h
      cases hs : stepS p.buf with
      | more => rw [hs] at h; cases h; simp
      | bad c => rw [hs] at h; cases h; simp
      | req r x => rw [hs] at h; cases h
    · rw [if_neg hb] at h; cases h; simp
  | @more p p1 p' r l h hd ih =>
    have := (next_len h).2.2.1
    rw [List.length_cons]; omega
/-- Drained: nothing is there any more. -/
theorem drains_end {p p' : PSt} {l : List Rq} (h : Drains p l p') : p'.next = (none, p') := by
  induction h with
  | @stop p p' h =>
    unfold PSt.next at h
    by_cases hb : p.bad = 0
    · rw [if_pos hb] at h
      cases hs : stepS p.buf with
      | more =>
        rw [hs] at h; cases h
        unfold PSt.next
        rw [if_pos hb, hs]
      | bad c =>
        rw [hs] at h; cases h
        exact next_stuck (by rcases step_codes hs with h | h | h <;> (show c ≠ 0; omega))
      | req r x => rw [hs] at h; cases h
    · rw [if_neg hb] at h; cases h; exact next_stuck hb
  | more h hd ih => exact ih
/-- No more fields than may be. -/
theorem linesH_len : ∀ (ls : List (List UInt8)) (h h' : Hs), linesH h ls = some h' → h'.fs.length = h.fs.length + ls.length
  | [], h, h', e => by cases e; simp
  | l :: ls, h, h', e => by
    rw [linesH] at e
    cases hl : lineH h l with
    | none => rw [hl] at e; cases e
    | some k =>
      rw [hl] at e
      have ih := linesH_len ls k h' e
      have hk : k.fs.length = h.fs.length + 1 := by
        unfold lineH at hl
        split at hl
        · cases hl
        · split at hl
          · cases hl
          · split at hl
            · cases hl
            · cases hl; simp
      rw [ih, hk, List.length_cons]; omega
theorem head_fs {l : List (List UInt8)} {r : Rq} {k : Option Nat} (h : headL l = .ok r k) : r.fs.length ≤ 32 := by
  cases l with
  | nil => cases h
  | cons l0 ls =>
    unfold headL at h
    dsimp only at h
    split at h
    · cases h
    · rename_i hn
      split at h
      · cases h
      · split at h
        · cases h
        · rename_i hh e
          have hl := linesH_len _ _ _ e
          simp only [List.length_nil, List.length_cons] at hl hn
          split at h
          · cases h
          · split at h
            · cases h; show hh.fs.length ≤ 32; omega
            · split at h
              · cases h
              · cases h; show hh.fs.length ≤ 32; omega
theorem body_fs {r q : Rq} {k : Option Nat} {t x : List UInt8} (h : bodyS r k t = .req q x) : q.fs = r.fs := by
  cases k with
  | some n =>
    unfold bodyS at h
    dsimp only at h
    split at h <;> cases h
    rfl
  | none =>
    unfold bodyS at h
    dsimp only at h
    split at h
    · cases h
    · split at h <;> cases h
      rfl
theorem step_fs {s x : List UInt8} {r : Rq} (h : stepS s = .req r x) : r.fs.length ≤ 32 := by
  unfold stepS at h
  cases he : endF s with
  | none => rw [he] at h; dsimp only at h; split at h <;> cases h
  | some n =>
    rw [he] at h
    dsimp only at h
    split at h
    · cases h
    · cases hh : headR (s.take (n - 4)) with
      | bad c => rw [hh] at h; cases h
      | ok q k =>
        rw [hh] at h
        rw [body_fs h]
        exact head_fs hh
theorem drains_fs {p p' : PSt} {l : List Rq} (h : Drains p l p') : ∀ r ∈ l, r.fs.length ≤ 1000000 := by
  induction h with
  | stop h => intro r hr; cases hr
  | more h hd ih =>
    intro r hr
    rcases List.mem_cons.1 hr with rfl | hr
    · have := step_fs (next_len h).2.2.2; omega
    · exact ih r hr
end Go.Proofs.YtplajlccnnbifaaGreatDoor
/- A parser and what is kept beside it; awake walked. -/
namespace Go.Proofs.YtplajlccnnbifaaGreatDoor
open Go.RowKit
attribute [local go_sem] store_one S_match S_store

/-- A parser that stands so; all that it may turn is new, and none of K. -/
structure OneK (RA : World → (Nat → Prop) → Nat → PSt → Prop) (w : World) (g : Nat) (st : PSt) (K : Nat → Prop) (W : World) : Prop where
  ex : ∃ F, RA W F g st ∧ (∀ k, F k → w.heap.size ≤ k) ∧ ∀ k, K k → k < W.heap.size ∧ ¬ F k
  bel : Below w.heap.size w W
/-- The blocks of K are as they were. -/
def Same (K : Nat → Prop) (W W' : World) : Prop := ∀ k, K k → W'.heap[k]? = W.heap[k]?
/-- The fields' block, if there are any. -/
def FK (fs : List (List UInt8 × List UInt8)) (gf : Nat) : Nat → Prop := fun k => fs ≠ [] ∧ k = gf
section
variable {RA : World → (Nat → Prop) → Nat → PSt → Prop} {w W W' : World} {g : Nat} {st : PSt} {K K' : Nat → Prop}
theorem Same.row (h : Same K W W') {b : Nat} {cs : Array Value} {t : TypeId} (hr : Row W b cs t) (hb : K b) : Row W' b cs t := (h b hb).trans hr
theorem Same.flds (h : Same K W W') {V : Value} {fs : List (List UInt8 × List UInt8)} {gf : Nat} (hf : FldsAt W V fs gf) (hk : ∀ k, FK fs gf k → K k) : FldsAt W' V fs gf := hf.same (fun hne => h gf (hk gf ⟨hne, rfl⟩))
theorem OneK.mono (h : OneK RA w g st K W) (hk : ∀ k, K' k → K k) : OneK RA w g st K' W := by
  obtain ⟨⟨F, h1, h2, h3⟩, hB⟩ := h
  exact ⟨⟨F, h1, h2, fun k hk' => h3 k (hk k hk')⟩, hB⟩
/-- What was made beside it is kept from now on. -/
theorem OneK.grow (C : RequestI w RA) (h : OneK RA w g st K W) (hb : Below W.heap.size W W') : OneK RA w g st (fun k => K k ∨ (W.heap.size ≤ k ∧ k < W'.heap.size)) W' := by
  obtain ⟨⟨F, h1, h2, h3⟩, hB⟩ := h
  have hlt := (C.lt h1).2
  refine ⟨⟨F, C.below h1 hb, h2, fun k hk => ?_⟩, hB.trans (hb.mono hB.size)⟩
  rcases hk with hk | hk
  · have h4 := h3 k hk; have h5 := hb.size; exact ⟨by omega, h4.2⟩
  · exact ⟨hk.2, fun hf => by have := hlt k hf; omega⟩
theorem OneK.below (C : RequestI w RA) (h : OneK RA w g st K W) (hb : Below W.heap.size W W') : OneK RA w g st K W' := (h.grow C hb).mono (fun _ hk => .inl hk)
theorem OneK.same (h : OneK RA w g st K W) (hb : Below W.heap.size W W') : Same K W W' := fun k hk => by
  obtain ⟨⟨F, _, _, h3⟩, _⟩ := h
  exact hb.block k (h3 k hk).1
/-- A cell of a block of K turned. -/
theorem OneK.set (C : RequestI w RA) (h : OneK RA w g st K W) {b : Nat} (hb : K b) (hw : w.heap.size ≤ b) (o : Nat) (v : Value) : OneK RA w g st K (W.setCell ⟨b, o, none⟩ v) := by
  obtain ⟨⟨F, h1, h2, h3⟩, hB⟩ := h
  have hs : (W.setCell ⟨b, o, none⟩ v).heap.size = W.heap.size := by simp [World.setCell]
  refine ⟨⟨F, C.same h1 (by rw [hs]; exact Nat.le_refl _) (fun k hk => Below.heap_setCell _ _ _ _ (fun e => (h3 b hb).2 (by rw [show b = k from e.symm]; exact hk))), h2, fun k hk => by rw [hs]; exact h3 k hk⟩, hB.setCell (p := ⟨b, o, none⟩) hw v⟩
theorem OneK.make (C : RequestI w RA) (h : Below w.heap.size w W) : Calls Tryz.prog 7 #[] W fun e W' => ∃ g, e = .returned (.pointer (some ⟨g, 0, none⟩)) ∧ OneK RA w g PSt.new (fun k => k < W.heap.size) W' ∧ Below W.heap.size W W' := by
  refine (C.new W).mono ?_
  rintro e W' ⟨g, F, he, h1, h2, hB⟩
  exact ⟨g, he, ⟨⟨F, h1, fun k hk => by have := h2 k hk; have := h.size; omega, fun k hk => ⟨by have := hB.size; omega, fun hf => by have := h2 k hf; omega⟩⟩, h.trans (hB.mono h.size)⟩, hB⟩
theorem OneK.feed (C : RequestI w RA) (h : OneK RA w g st K W) (x : List UInt8) (hx : st.buf.length + x.length ≤ 100000) :
    Calls Tryz.prog 8 #[.pointer (some ⟨g, 0, none⟩), S x] W fun e W' => e = .returned (.tuple #[]) ∧ OneK RA w g (st.feed x) K W' ∧ Same K W W' := by
  obtain ⟨⟨F, h1, h2, h3⟩, hB⟩ := h
  refine (C.feed x h1 hx).mono ?_
  rintro e W' ⟨he, F', h1', hm⟩
  have ha := hm.apart h3
  exact ⟨he, ⟨⟨F', h1', hm.from h2 hB.size, ha.2⟩, hB.trans (hm.below h2 hB.size)⟩, ha.1⟩
/-- Next where nothing is there. -/
theorem OneK.nextNone (C : RequestI w RA) (h : OneK RA w g st K W) (hl : st.buf.length ≤ 100000) {st' : PSt} (hn : st.next = (none, st')) :
    Calls Tryz.prog 9 #[.pointer (some ⟨g, 0, none⟩)] W fun e W' => e = .returned (.tuple #[.agg zeroR, .bool false]) ∧ OneK RA w g st' K W' ∧ Same K W W' := by
  obtain ⟨⟨F, h1, h2, h3⟩, hB⟩ := h
  refine (C.next h1 hl hB).mono ?_
  rintro e W' ⟨F', h1', hm, hv⟩
  rw [hn] at h1' hv
  have ha := hm.apart h3
  exact ⟨hv, ⟨⟨F', h1', hm.from h2 hB.size, ha.2⟩, hB.trans (hm.below h2 hB.size)⟩, ha.1⟩
/-- Next where a request is there. -/
theorem OneK.nextSome (C : RequestI w RA) (h : OneK RA w g st K W) (hl : st.buf.length ≤ 100000) {st' : PSt} {r : Rq} (hn : st.next = (some r, st')) :
    Calls Tryz.prog 9 #[.pointer (some ⟨g, 0, none⟩)] W fun e W' => ∃ a c gf, e = .returned (.tuple #[.agg (rqCells r.m r.p r.q r.v (.slice a r.fs.length c) r.body r.cl), .bool true]) ∧
      FldsAt W' (.slice a r.fs.length c) r.fs gf ∧ OneK RA w g st' (fun k => K k ∨ FK r.fs gf k) W' ∧ Same K W W' ∧ (r.fs = [] ∨ (¬ K gf ∧ gf < W'.heap.size)) := by
  obtain ⟨⟨F, h1, h2, h3⟩, hB⟩ := h
  refine (C.next h1 hl hB).mono ?_
  rintro e W' ⟨F', h1', hm, hv⟩
  rw [hn] at h1' hv
  obtain ⟨V, gf, he, hf, hx⟩ := hv
  obtain ⟨a, c, rfl⟩ := hf.form
  have ha := hm.apart h3
  refine ⟨a, c, gf, he, hf, ⟨⟨F', h1', hm.from h2 hB.size, fun k hk => ?_⟩, hB.trans (hm.below h2 hB.size)⟩, ha.1, hx.imp id (fun e => ⟨fun hk => by
    rcases e.1 with h4 | h4
    · exact (h3 gf hk).2 h4
    · have := (h3 gf hk).1; omega, e.2.1⟩)⟩
  rcases hk with hk | ⟨hne, rfl⟩
  · exact ha.2 k hk
  · exact ⟨(hx.resolve_left hne).2.1, (hx.resolve_left hne).2.2⟩
theorem OneK.bad (C : RequestI w RA) (h : OneK RA w g st K W) : Calls Tryz.prog 15 #[.pointer (some ⟨g, 0, none⟩)] W fun e W' => e = .returned (.int .i64 (st.bad : Int)) ∧ OneK RA w g st K W' ∧ Below W.heap.size W W' := by
  obtain ⟨F, h1, _⟩ := h.ex
  exact (C.bad h1).mono (by rintro e W' ⟨he, hb⟩; exact ⟨he, h.below C hb, hb⟩)
theorem OneK.idle (C : RequestI w RA) (h : OneK RA w g st K W) : Calls Tryz.prog 13 #[.pointer (some ⟨g, 0, none⟩)] W fun e W' => e = .returned (.bool (decide (st.bad = 0) && st.buf == [])) ∧ OneK RA w g st K W' ∧ Below W.heap.size W W' := by
  obtain ⟨F, h1, _⟩ := h.ex
  exact (C.idle h1).mono (by rintro e W' ⟨he, hb⟩; exact ⟨he, h.below C hb, hb⟩)
theorem OneK.rest (C : RequestI w RA) (h : OneK RA w g st K W) : Calls Tryz.prog 16 #[.pointer (some ⟨g, 0, none⟩)] W fun e W' => e = .returned (S st.buf) ∧ OneK RA w g st.rest K W' ∧ Same K W W' := by
  obtain ⟨⟨F, h1, h2, h3⟩, hB⟩ := h
  refine (C.rest h1).mono ?_
  rintro e W' ⟨he, F', h1', hm⟩
  have ha := hm.apart h3
  exact ⟨he, ⟨⟨F', h1', hm.from h2 hB.size, ha.2⟩, hB.trans (hm.below h2 hB.size)⟩, ha.1⟩
end
/-- A row of fields that is written out. -/
theorem flds_row {w : World} {b : Nat} {fs : List (List UInt8 × List UInt8)} {c : Nat} {t : TypeId} (h : Row w b (fcells fs).toArray t) : FldsAt w (.slice (some ⟨b, 0, none⟩) fs.length c) fs b := by
  refine ⟨fun T w' => by simp [Builtin.len_, run_underlying Tryz.underlying25, Result.andThen, goInt], fun i hi w' => ?_, fun i f hf => ?_, ⟨_, _, rfl⟩⟩
  · have := run_index_at (P := Tryz.prog) Tryz.underlying25 (fun w => Tryz.sizeOf47 w) b 0 fs.length c i hi w'
    rwa [Nat.zero_add] at this
  · obtain ⟨h1, h2⟩ := fcells_get fs i f hf
    exact ⟨by rw [cell_of_row w b _ _ t (0, 0) h]; simpa using h1, by rw [cell_of_row w b _ _ t (0, 0) h]; simpa using h2⟩
set_option maxRecDepth 100000 in
set_option maxHeartbeats 1000000 in
theorem awake_request {RA : World → (Nat → Prop) → Nat → PSt → Prop} {w : World} (C : RequestI w RA) : Calls Tryz.prog 12 #[] w fun e w' => e = .returned (.bool true) ∧ Below w.heap.size w w' := by
  have HC := Lib.hid C
  clear C
  go_enter Tryz.func12, Tryz.ntmps12
  go_wp2_with fail
  refine (OneK.make HC.out (Below.refl _ w)).mono ?_
  rintro e W1 ⟨g, rfl, h, _⟩
  have H1 := Lib.hid h
  clear h
  go_wp2_with fail
  refine (H1.out.feed HC.out wakeL (by decide)).mono ?_
  rintro e W2 ⟨rfl, h, _⟩
  have h2 : OneK RA w g ⟨wakeL, 0⟩ (fun k => k < w.heap.size) W2 := h
  have H2 := Lib.hid h2
  clear h h2 H1
  go_wp2_with fail
  refine (H2.out.nextSome HC.out (by decide) (next_req wake_step)).mono ?_
  rintro e W3 ⟨a, c, gf, rfl, hf, h, _⟩
  have H3 := Lib.hid (And.intro hf h)
  clear hf h H2
  unfold rqCells
  dsimp only [S]
  obtain ⟨W4, hW4⟩ : ∃ W4, W4 = W3.alloc (.cells (rqCells [71, 69, 84] [47, 97] [98] 11 (.slice a 1 c) [] false) 27) := ⟨_, rfl⟩
  have hB4 : Below W3.heap.size W3 W4 := by rw [hW4]; exact (Below.refl _ W3).alloc (Nat.le_refl _) _
  have hr4 : Row W4 W3.heap.size (rqCells [71, 69, 84] [47, 97] [98] 11 (.slice a 1 c) [] false) 27 := by rw [hW4]; exact row_new _ _ _
  have H4 := Lib.hid (And.intro (H3.out.2.grow HC.out hB4) (And.intro (H3.out.1.below hB4) hr4))
  have HW := Lib.hid hW4
  clear hW4 hB4 hr4
  go_wp2_with fail
  have h4 := H4.out.1
  rw [HW.out] at h4
  refine (h4.nextNone HC.out (by decide) (next_more wake_more)).mono ?_
  rintro e W5 ⟨rfl, h, hs⟩
  rw [← HW.out] at hs
  have hb1 : W3.heap.size < W4.heap.size := H4.out.2.2.lt
  have hr5 := hs.row H4.out.2.2 (.inr ⟨Nat.le_refl _, hb1⟩)
  have hf5 := hs.flds H4.out.2.1 (fun k hk => .inl (.inr hk))
  have H5 := Lib.hid (And.intro h hf5)
  obtain ⟨b2, hb2⟩ : ∃ b, b = W3.heap.size := ⟨_, rfl⟩
  rw [← hb2] at hr5
  rw [← hb2]
  have HR5 := Lib.hid hr5
  clear h h4 hs hf5 H4 H3 HW hb1 hb2 hr5
  unfold zeroR
  have hr8 : ∀ o1 o2 o3 : Obj, Row (((W5.alloc o1).alloc o2).alloc o3) b2 (rqCells [71, 69, 84] [47, 97] [98] 11 (.slice a 1 c) [] false) 27 := fun o1 o2 o3 => ((HR5.out.alloc o1).alloc o2).alloc o3
  have k0 : ∀ o1 o2 o3 : Obj, (((W5.alloc o1).alloc o2).alloc o3).cell? ⟨b2, 0, none⟩ = some (.string ⟨#[71, 69, 84]⟩) := fun o1 o2 o3 => cell_of_row _ _ 0 _ _ (0, 0) (hr8 o1 o2 o3)
  have k1 : ∀ o1 o2 o3 : Obj, (((W5.alloc o1).alloc o2).alloc o3).cell? ⟨b2, 1, none⟩ = some (.string ⟨#[47, 97]⟩) := fun o1 o2 o3 => cell_of_row _ _ 1 _ _ (0, 0) (hr8 o1 o2 o3)
  have k2 : ∀ o1 o2 o3 : Obj, (((W5.alloc o1).alloc o2).alloc o3).cell? ⟨b2, 2, none⟩ = some (.string ⟨#[98]⟩) := fun o1 o2 o3 => cell_of_row _ _ 2 _ _ (0, 0) (hr8 o1 o2 o3)
  have k3 : ∀ o1 o2 o3 : Obj, (((W5.alloc o1).alloc o2).alloc o3).cell? ⟨b2, 3, none⟩ = some (.int .i64 11) := fun o1 o2 o3 => cell_of_row _ _ 3 _ _ (0, 0) (hr8 o1 o2 o3)
  have k4 : ∀ o1 o2 o3 : Obj, (((W5.alloc o1).alloc o2).alloc o3).cell? ⟨b2, 4, none⟩ = some (.slice a 1 c) := fun o1 o2 o3 => cell_of_row _ _ 4 _ _ (0, 0) (hr8 o1 o2 o3)
  have k5 : ∀ o1 o2 o3 : Obj, (((W5.alloc o1).alloc o2).alloc o3).cell? ⟨b2, 5, none⟩ = some (.string ⟨#[]⟩) := fun o1 o2 o3 => cell_of_row _ _ 5 _ _ (0, 0) (hr8 o1 o2 o3)
  have k6 : ∀ o1 o2 o3 : Obj, (((W5.alloc o1).alloc o2).alloc o3).cell? ⟨b2, 6, none⟩ = some (.bool false) := fun o1 o2 o3 => cell_of_row _ _ 6 _ _ (0, 0) (hr8 o1 o2 o3)
  clear hr8
  go_wp2_with fail
  clear k0 k1 k2 k3 k4 k5 k6
  obtain ⟨W8, hW8⟩ : ∃ W8, W8 = (((W5.alloc (.cells zeroR 27)).alloc (.cells (fcells [([72, 111, 115, 116], [120])]).toArray 47)).alloc (.cells (rqCells [71, 69, 84] [47, 97] [98] 11 (.slice (some ⟨W5.heap.size + 1, 0, none⟩) 1 1) [] false) 27)) := ⟨_, rfl⟩
  have hB8 : Below W5.heap.size W5 W8 := by rw [hW8]; exact (((Below.refl _ W5).alloc (Nat.le_refl _) _).alloc (by simp) _).alloc (by simp; omega) _
  have hr8 : Row W8 (W5.heap.size + 1) (fcells [([72, 111, 115, 116], [120])]).toArray 47 := by
    have := (row_new (W5.alloc (.cells zeroR 27)) (fcells [([72, 111, 115, 116], [120])]).toArray 47).alloc (.cells (rqCells [71, 69, 84] [47, 97] [98] 11 (.slice (some ⟨W5.heap.size + 1, 0, none⟩) 1 1) [] false) 27)
    rw [alloc_size] at this
    rw [hW8]; exact this
  have hsm := dsame_true [71, 69, 84] [47, 97] [98] [] 11 false [([72, 111, 115, 116], [120])] (.slice a 1 c) (.slice (some ⟨W5.heap.size + 1, 0, none⟩) 1 1) gf (W5.heap.size + 1) (by decide) W8 (H5.out.2.below hB8) (flds_row hr8)
  have H8 := Lib.hid (H5.out.1.below HC.out hB8)
  have HS := Lib.hid hsm
  rw [hW8] at hsm
  clear hB8 hr8
  refine hsm.mono ?_
  clear hsm
  rintro e W9 ⟨rfl, hB⟩
  rw [← hW8] at hB
  have H9 := Lib.hid (H8.out.below HC.out hB)
  clear hB hW8 HS H8 H5 HR5
  go_wp2_with fail
  refine (H9.out.bad HC.out).mono ?_
  rintro e W10 ⟨rfl, h, _⟩
  have H10 := Lib.hid h
  clear h H9
  rw [show ((PSt.bad ⟨[71, 69, 84], 0⟩ : Nat) : Int) = 0 from rfl]
  go_wp2_with fail
  refine (H10.out.idle HC.out).mono ?_
  rintro e W11 ⟨rfl, h, _⟩
  have H11 := Lib.hid h.bel
  clear h H10
  rw [show (decide ((PSt.bad ⟨[71, 69, 84], 0⟩ : Nat) = 0) && (PSt.buf ⟨[71, 69, 84], 0⟩ == [])) = false from rfl]
  go_wp2
  go_ret
  exact ⟨rfl, H11.out⟩
end Go.Proofs.YtplajlccnnbifaaGreatDoor
/- Bytes that wait: a slice at whatever place of its block: read, cut at the front, a text appended. -/
namespace Go.Proofs.YtplajlccnnbifaaGreatDoor
open Go.RowKit

/-- A slice of bytes, to be read. -/
def WaitV (w : World) (V : Value) (x : List UInt8) : Prop :=
  ∃ a c, V = .slice a x.length c ∧ x.length ≤ c ∧ (a = none → c = 0) ∧ ∀ i (h : i < x.length), ∃ k o, a = some ⟨k, o, none⟩ ∧ w.cell? ⟨k, o + i, none⟩ = some (B x[i])
/-- v holds the bytes x, in the block that ow names. -/
def WaitO (w : World) (v : Value) (ow : Option Nat) (x : List UInt8) : Prop :=
  (v = .slice none 0 0 ∧ ow = none ∧ x = []) ∨
  ∃ g o c cur, v = .slice (some ⟨g, o, none⟩) x.length c ∧ ow = some g ∧ w.heap[g]? = some (.cells cur 5 (0, 0)) ∧ x.length ≤ c ∧ o + c ≤ cur.size ∧ c ≤ maxLen ∧ ∀ i (h : i < x.length), cur[o + i]? = some (B x[i])
theorem slice_both (W : World) (a : Option Addr) (n c lo hi : Nat) (hlo : lo ≤ hi) (hhi : hi ≤ c) :
    (Instr.slice 36 (.slice a n c) (some (.int .i64 (lo : Int))) (some (.int .i64 (hi : Int))) none).run Tryz.prog W = .ok (.slice (if c = lo then a else a.map (·.add lo)) (hi - lo) (c - lo)) W := by
  simp [Instr.slice, run_underlying Tryz.underlying36, Instr.sliceBounds, run_sliceBound, Result.andThen, Tryz.sizeOf5, hlo, hhi]
theorem slice_from (W : World) (a : Option Addr) (n c p : Nat) (hp : p ≤ n) (_hn : n ≤ c) :
    (Instr.slice 36 (.slice a n c) (some (.int .i64 (p : Int))) none none).run Tryz.prog W = .ok (.slice (if c = p then a else a.map (·.add p)) (n - p) (c - p)) W := by
  simp [Instr.slice, run_underlying Tryz.underlying36, Instr.sliceBounds, run_sliceBound, Result.andThen, Tryz.sizeOf5, hp]
theorem slice_upto (W : World) (a : Option Addr) (n c k : Nat) (hk : k ≤ c) :
    (Instr.slice 36 (.slice a n c) none (some (.int .i64 (k : Int))) none).run Tryz.prog W = .ok (.slice a k c) W := by
  have : (Option.map (fun x : Addr => x.add 0) a) = a := by cases a <;> simp [Addr.add]
  simp [Instr.slice, run_underlying Tryz.underlying36, Instr.sliceBounds, run_sliceBound, Result.andThen, Tryz.sizeOf5, hk, this]
theorem WaitV.len {w : World} {V : Value} {x : List UInt8} (h : WaitV w V x) (T : TypeId) (w' : World) : (Builtin.len_ #[36] T #[V]).run Tryz.prog w' = .ok (.int .i64 (x.length : Int)) w' := by
  obtain ⟨a, c, rfl, _⟩ := h
  simp [Builtin.len_, run_underlying Tryz.underlying36, Result.andThen, goInt]
theorem WaitV.upto {w : World} {V : Value} {x : List UInt8} (h : WaitV w V x) (k : Nat) (hk : k ≤ x.length) :
    ∃ V', (∀ w', (Instr.slice 36 V none (some (.int .i64 (k : Int))) none).run Tryz.prog w' = .ok V' w') ∧ WaitV w V' (x.take k) := by
  obtain ⟨a, c, rfl, hc, hn, hcell⟩ := h
  refine ⟨.slice a k c, fun w' => slice_upto w' _ x.length c k (by omega), a, c, ?_, ?_, hn, fun i hi => ?_⟩
  · rw [List.length_take, Nat.min_eq_left hk]
  · rw [List.length_take]; omega
  · rw [List.length_take] at hi
    obtain ⟨k', o, h1, h2⟩ := hcell i (by omega)
    exact ⟨k', o, h1, by rw [h2, List.getElem_take]⟩
theorem WaitV.mid {w : World} {V : Value} {x : List UInt8} (h : WaitV w V x) (p q : Nat) (hp : p ≤ q) (hq : q ≤ x.length) :
    ∃ V', (∀ w', (Instr.slice 36 V (some (.int .i64 (p : Int))) (some (.int .i64 (q : Int))) none).run Tryz.prog w' = .ok V' w') ∧ WaitV w V' ((x.drop p).take (q - p)) := by
  obtain ⟨a, c, rfl, hc, hn, hcell⟩ := h
  have hl : ((x.drop p).take (q - p)).length = q - p := by rw [List.length_take, List.length_drop]; omega
  refine ⟨_, fun w' => slice_both w' _ x.length c p q hp (by omega), _, c - p, by rw [hl], by omega, fun he => ?_, fun i hi => ?_⟩
  · split at he
    · omega
    · cases a with
      | none => have := hn rfl; omega
      | some a => cases he
  · rw [hl] at hi
    obtain ⟨k', o, h1, h2⟩ := hcell (p + i) (by omega)
    refine ⟨k', o + p, ?_, ?_⟩
    · rw [if_neg (by omega), h1]; simp [Addr.add_lit]
    · rw [Nat.add_assoc, h2, List.getElem_take, List.getElem_drop]
theorem WaitV.text {w : World} {V : Value} {x : List UInt8} (h : WaitV w V x) : (convert 36 9 V).run Tryz.prog w = .ok (S x) w := by
  obtain ⟨a, c, rfl, hc, _, hcell⟩ := h
  cases a with
  | none =>
    have h0 : x = [] := by
      rcases Nat.eq_zero_or_pos x.length with h | h
      · exact List.length_eq_zero_iff.1 h
      · obtain ⟨_, _, h, _⟩ := hcell 0 h; cases h
    subst h0
    exact run_convert_bytes_nil (w := w) 36 5 Tryz.underlying36 Tryz.underlying5 0 c 9 Tryz.underlying9
  | some a =>
    exact run_convert_bytes_back (P := Tryz.prog) w 36 9 5 a c x Tryz.underlying36 Tryz.underlying5 Tryz.underlying9 (fun j hj => by
      obtain ⟨b, o, ha, hcl⟩ := hcell j (by omega)
      cases ha
      rw [Addr.add_mid, hcl]; rfl)
theorem WaitV.below {w w' : World} {V : Value} {x : List UInt8} (h : WaitV w V x) (hb : Below w.heap.size w w') : WaitV w' V x := by
  obtain ⟨a, c, hV, hc, hn, hcell⟩ := h
  refine ⟨a, c, hV, hc, hn, fun i hi => ?_⟩
  obtain ⟨k, o, ha, hcl⟩ := hcell i hi
  exact ⟨k, o, ha, by rw [hb.cell (World.block_lt_of_cell? w _ hcl)]; exact hcl⟩
section
variable {w w' : World} {v : Value} {ow : Option Nat} {x : List UInt8}
theorem WaitO.nil (w : World) : WaitO w (.slice none 0 0) none [] := .inl ⟨rfl, rfl, rfl⟩
theorem WaitO.toV (h : WaitO w v ow x) : WaitV w v x := by
  rcases h with ⟨rfl, _, rfl⟩ | ⟨g, o, c, cur, rfl, _, hg, hc, ho, _, hx⟩
  · exact ⟨none, 0, rfl, Nat.le_refl _, fun _ => rfl, fun i hi => absurd hi (by simp)⟩
  · refine ⟨_, c, rfl, hc, fun h => by (cases h), fun i hi => ⟨g, o, rfl, ?_⟩⟩
    rw [cell_of_row w g (o + i) cur 5 (0, 0) hg]
    exact hx i hi
theorem WaitO.lt (h : WaitO w v ow x) : ∀ k, ow = some k → k < w.heap.size := by
  rintro k rfl
  rcases h with ⟨_, h, _⟩ | ⟨g, o, c, cur, _, h, hg, _⟩
  · cases h
  · cases h; exact (Array.getElem?_eq_some_iff.1 hg).1
theorem WaitO.same (h : WaitO w v ow x) (hb : ∀ k, ow = some k → w'.heap[k]? = w.heap[k]?) : WaitO w' v ow x := by
  rcases h with h | ⟨g, o, c, cur, h1, rfl, hg, h2⟩
  · exact .inl h
  · exact .inr ⟨g, o, c, cur, h1, rfl, (hb g rfl).trans hg, h2⟩
theorem WaitO.below (h : WaitO w v ow x) (hb : Below w.heap.size w w') : WaitO w' v ow x := h.same fun k hk => hb.block k (h.lt k hk)
theorem WaitO.form (h : WaitO w v ow x) : ∃ a c, v = .slice a x.length c ∧ x.length ≤ c := by
  rcases h with ⟨rfl, _, rfl⟩ | ⟨g, o, c, cur, rfl, _, _, hc, _⟩
  · exact ⟨none, 0, rfl, Nat.le_refl _⟩
  · exact ⟨_, c, rfl, hc⟩
/-- Cut at the front. -/
theorem WaitO.cut (h : WaitO w v ow x) (p : Nat) (hp : p ≤ x.length) :
    ∃ a c, (∀ W, (Instr.slice 36 v (some (.int .i64 (p : Int))) none none).run Tryz.prog W = .ok (.slice a (x.length - p) c) W) ∧ (p < x.length → WaitO w (.slice a (x.length - p) c) ow (x.drop p)) := by
  have hf := h.form
  obtain ⟨a, c, rfl, hc⟩ := hf
  refine ⟨_, _, fun W => slice_from W a x.length c p hp hc, fun hlt => ?_⟩
  rcases h with ⟨_, _, rfl⟩ | ⟨g, o, c', cur, he, rfl, hg, hc', ho, hm, hx⟩
  · simp at hlt
  · cases he
    refine .inr ⟨g, o + p, c - p, cur, ?_, rfl, hg, by rw [List.length_drop]; omega, by omega, by omega, fun i hi => ?_⟩
    · rw [if_neg (by omega), List.length_drop]; simp [Addr.add_lit]
    · rw [List.length_drop] at hi
      rw [Nat.add_assoc, hx (p + i) (by omega), List.getElem_drop]
end
theorem strCells_S (l : List UInt8) : Lib.strCells ⟨l.toArray⟩ = l.map B := by simp [Lib.strCells, B]
/-- There is room. -/
theorem append_room_off {P : Program} (w : World) (t u ty e : TypeId) (i : TypeInfo) (ht : P.underlying t = some (.slice e)) (hu : P.underlying u = some .string) (hi : P.info? e = some i) (hs1 : i.size = 1)
    (g o sLen sCap : Nat) (cur : Array Value) (hg : w.heap[g]? = some (.cells cur e (0, 0))) (s : ByteArray)
    (hroom : sLen + s.size ≤ sCap) (hfit : o + sLen + s.size ≤ cur.size) :
    (Builtin.append_ #[t, u] ty #[.slice (some ⟨g, o, none⟩) sLen sCap, .string s]).run P w =
      .ok (.slice (some ⟨g, o, none⟩) (sLen + s.size) sCap) (w.setRow g (cur.toList.take (o + sLen) ++ Lib.strCells s ++ cur.toList.drop (o + sLen + s.size)).toArray) := by
  have hf := Lib.run_firstCells_string (P := P) w 1 s
  have hst := run_storeCells_at P g (o + sLen) e (Lib.strCells s) 0 cur w hg (by simpa [Lib.strCells_length] using hfit) (Lib.strCells_oneCell s)
  simp only [Nat.add_zero, Lib.strCells_length] at hst
  simp [Builtin.append_, run_underlying ht, run_underlying hu, sizeOf, typeInfo, hi, hs1, Builtin.lenOf, hroom, hf, Addr.add_lit, hst]
theorem info5 : (Tryz.prog.info? 5).map (fun i => (i.zero, i.size, i.bytes)) = some (some (.int .u8 0), 1, 1) := by kernel_rfl
/-- A text is appended. -/
theorem WaitO.add {w : World} {v : Value} {ow : Option Nat} {x : List UInt8} (h : WaitO w v ow x) (s : List UInt8) (hb : x.length + s.length ≤ 1000000) (ty : TypeId) :
    ∃ a c ow' w', (Builtin.append_ #[36, 9] ty #[v, S s]).run Tryz.prog w = .ok (.slice a (x.length + s.length) c) w' ∧ WaitO w' (.slice a (x.length + s.length) c) ow' (x ++ s) ∧ w.grownBy w' ow ∧ (ow' = ow ∨ (ow' = some w.heap.size ∧ w.heap.size < w'.heap.size)) := by
  obtain ⟨i, hi, hz0, hz1, hz2⟩ : ∃ i, Tryz.prog.info? 5 = some i ∧ i.zero = some (Value.int .u8 0) ∧ i.size = 1 ∧ i.bytes = 1 := by
    have := info5
    cases hi : Tryz.prog.info? 5 with
    | none => rw [hi] at this; cases this
    | some i =>
      simp only [hi, Option.map_some, Option.some.injEq, Prod.mk.injEq] at this
      exact ⟨i, rfl, this.1, this.2.1, this.2.2⟩
  have hsz := S_size s
  have hlen : (x ++ s).length = x.length + s.length := List.length_append
  have grown : ∀ (old : Nat), old < x.length + s.length →
      WaitO (w.drew.alloc (.cells ((x.map B).toArray ++ (Lib.strCells ⟨s.toArray⟩).toArray ++ Builtin.zeroCells (Value.int .u8 0).cells (grownCap w (x.length + s.length) old 5 - (x.length + s.length))) 5))
        (.slice (some ⟨w.heap.size, 0, none⟩) (x.length + s.length) (grownCap w (x.length + s.length) old 5)) (some w.heap.size) (x ++ s) ∧
      w.grownBy (w.drew.alloc (.cells ((x.map B).toArray ++ (Lib.strCells ⟨s.toArray⟩).toArray ++ Builtin.zeroCells (Value.int .u8 0).cells (grownCap w (x.length + s.length) old 5 - (x.length + s.length))) 5)) ow := by
    intro old ho
    have hge := grownCap_ge w (x.length + s.length) old 5
    have hcm : grownCap w (x.length + s.length) old 5 ≤ maxLen := grownCap_le_maxLen w (x.length + s.length) old 5 (by simp only [maxLen]; omega)
    refine ⟨.inr ⟨w.heap.size, 0, _, _, by rw [hlen], rfl, heap_alloc_new w.drew _, by rw [hlen]; exact hge, ?_, hcm, fun j hj => ?_⟩, ⟨rfl, rfl, rfl, by simp, fun k hk _ => heap_alloc_old w.drew _ hk⟩⟩
    · have hz1' : (Value.int IntKind.u8 0).cells.size = 1 := rfl
      simp only [Array.size_append, List.size_toArray, size_zeroCells, hz1', List.length_map, strCells_S]
      omega
    · rw [Nat.zero_add, strCells_S, Array.getElem?_append_left (by simp only [Array.size_append, List.size_toArray, List.length_map]; omega)]
      rw [← Array.getElem?_toList, Array.toList_append]
      show (x.map B ++ s.map B)[j]? = _
      rw [← List.map_append, List.getElem?_map, List.getElem?_eq_getElem hj]; rfl
  rcases h with ⟨rfl, rfl, rfl⟩ | ⟨g, o, cap, cur, rfl, rfl, hg, hc, ho, hm, hx⟩
  · by_cases hs0 : s.length = 0
    · obtain rfl := List.length_eq_zero_iff.1 hs0
      refine ⟨none, 0, none, w, ?_, WaitO.nil w, ⟨rfl, rfl, rfl, Nat.le_refl _, fun _ _ _ => rfl⟩, .inl rfl⟩
      have hf := Lib.run_firstCells_string (P := Tryz.prog) w 1 ⟨#[]⟩
      have hsz0 : (⟨#[]⟩ : ByteArray).size = 0 := rfl
      rw [hsz0] at hf
      simp [S, Builtin.append_, run_underlying Tryz.underlying36, run_underlying Tryz.underlying9, sizeOf, typeInfo, hi, hz1, Builtin.lenOf, hsz0, hf, Lib.strCells]
    · have hr := run_append_nil_string (P := Tryz.prog) w 36 9 ty 5 i (.int .u8 0) Tryz.underlying36 Tryz.underlying9 hi hz0 ⟨s.toArray⟩ (by rw [hsz]; omega) (by rw [hsz]; omega) (by rw [hsz, hz2]; simp only [List.length_nil] at hb; omega)
      have hgr := grown 0 (by simp only [List.length_nil]; omega)
      rw [hsz] at hr
      simp only [List.length_nil, Nat.zero_add, List.map_nil, List.nil_append, Array.empty_append] at hgr ⊢
      have e1 : ((⟨s.toArray⟩ : ByteArray).data.map fun b => Value.int .u8 b.toNat) = (Lib.strCells ⟨s.toArray⟩).toArray := by
        apply Array.ext'
        simp [Lib.strCells]
      rw [e1] at hr
      exact ⟨_, _, _, _, hr, hgr.1, hgr.2, .inr ⟨rfl, by simp⟩⟩
  · by_cases hroom : x.length + s.length ≤ cap
    · have hr := append_room_off (P := Tryz.prog) w 36 9 ty 5 i Tryz.underlying36 Tryz.underlying9 hi hz1 g o x.length cap cur hg ⟨s.toArray⟩ (by rw [hsz]; exact hroom) (by rw [hsz]; omega)
      rw [hsz] at hr
      refine ⟨_, _, _, _, hr, .inr ⟨g, o, cap, _, by rw [hlen], rfl, setRow_heap w g cur _ 5 _ hg, by rw [hlen]; exact hroom, ?_, hm, fun j hj => ?_⟩, ⟨rfl, rfl, rfl, by simp, fun k _ hk => setRow_other w g k _ (fun e => hk (by rw [e]))⟩, .inl rfl⟩
      · simp only [List.size_toArray, List.length_append, List.length_take, List.length_drop, Array.length_toList, strCells_S, List.length_map]
        omega
      · rw [hlen] at hj
        have hcu : cur.toList.length = cur.size := Array.length_toList
        rw [List.getElem?_toArray, strCells_S]
        by_cases hj1 : j < x.length
        · rw [List.append_assoc, List.getElem?_append_left (by rw [List.length_take, hcu]; omega), List.getElem?_take, if_pos (by omega), Array.getElem?_toList, hx j hj1, List.getElem_append_left hj1]
        · rw [List.getElem?_append_left (by simp only [List.length_append, List.length_take, hcu, List.length_map]; omega), List.getElem?_append_right (by rw [List.length_take, hcu]; omega)]
          rw [List.length_take, hcu, show o + j - min (o + x.length) cur.size = j - x.length by omega, List.getElem?_map, List.getElem?_eq_getElem (by omega), List.getElem_append_right (by omega)]; rfl
    · have hr := Lib.run_append_grow_string (P := Tryz.prog) w 36 9 ty 5 i (.int .u8 0) Tryz.underlying36 Tryz.underlying9 hi hz0 ⟨g, o, none⟩ x.length cap (x.map B) (by rw [hz1, List.length_map, Nat.mul_one]) (fun j u hu => by
        rw [List.getElem?_map] at hu
        obtain ⟨b, hb', rfl⟩ := Option.map_eq_some_iff.1 hu
        obtain ⟨hjl, rfl⟩ := List.getElem?_eq_some_iff.1 hb'
        rw [Addr.add_mid, cell_of_row w g (o + j) cur 5 (0, 0) hg]
        exact hx j hjl) ⟨s.toArray⟩ (by rw [hsz]; omega) (by rw [hsz]; omega) (by rw [hsz, hz2]; exact growslice_fits (by omega) (by omega))
      rw [hsz] at hr
      have hgr := grown cap (by omega)
      exact ⟨_, _, _, _, hr, hgr.1, hgr.2, .inr ⟨rfl, by simp⟩⟩
end Go.Proofs.YtplajlccnnbifaaGreatDoor
/- Requests: the landed package's way as list functions; it tells the same. -/
namespace Go.Proofs.YtplajlccnnbifaaGreatDoor
open Go.RowKit

/-! A head's end, and its lines. -/
theorem index_cons (b : UInt8) (l sub : List UInt8) : Lib.index (b :: l) sub = if sub.isPrefixOf (b :: l) then 0 else if Lib.index l sub == -1 then -1 else Lib.index l sub + 1 := by rw [Lib.index]
theorem prefix_take {p l : List UInt8} (h : l.take p.length = p) : p.isPrefixOf l = true := by
  rw [List.isPrefixOf_iff_prefix, List.prefix_iff_eq_take]; exact h.symm
theorem prefix_no {p l : List UInt8} (h : l.take p.length ≠ p) : p.isPrefixOf l = false := by
  rw [Bool.eq_false_iff]
  intro e
  rw [List.isPrefixOf_iff_prefix, List.prefix_iff_eq_take] at e
  exact h e.symm
theorem endF_index : ∀ s : List UInt8, endF s = if Lib.index s [13, 10, 13, 10] = -1 then none else some ((Lib.index s [13, 10, 13, 10]).toNat + 4)
  | [] => by rfl
  | c :: r => by
    have ih := endF_index r
    have hge := Lib.index_ge r [13, 10, 13, 10]
    rw [endF, index_cons]
    by_cases h : (c :: r).take 4 = [13, 10, 13, 10]
    · rw [if_pos h, prefix_take (p := [13, 10, 13, 10]) h]; rfl
    · rw [if_neg h, prefix_no (p := [13, 10, 13, 10]) h, if_neg Bool.false_ne_true, ih]
      by_cases hm : Lib.index r [13, 10, 13, 10] = -1
      · rw [if_pos hm, if_pos (beq_iff_eq.2 hm), if_pos rfl]; rfl
      · rw [if_neg hm, if_neg (fun e => hm (beq_iff_eq.1 e)), if_neg (by omega : ¬ (Lib.index r [13, 10, 13, 10] + 1 = -1))]
        show some (_ + 1) = some _
        congr 1; omega
theorem lns_cut1 (cur r : List UInt8) : lnsF cur (13 :: 10 :: r) = cur :: lnsF [] r := by rw [lnsF, if_pos ⟨rfl, rfl⟩]
theorem lns_on1 {cur r : List UInt8} {c d : UInt8} (h : ¬ (c = 13 ∧ d = 10)) : lnsF cur (c :: d :: r) = lnsF (cur ++ [c]) (d :: r) := by rw [lnsF, if_neg h]
theorem lns_index : ∀ (s cur : List UInt8), (Lib.index s [13, 10] = -1 → lnsF cur s = [cur ++ s]) ∧ ∀ i : Nat, Lib.index s [13, 10] = (i : Int) → lnsF cur s = (cur ++ s.take i) :: lnsF [] (s.drop (i + 2))
  | [], cur => ⟨fun _ => by rw [lnsF, List.append_nil], fun i h => by
      have e : Lib.index [] [13, 10] = -1 := rfl
      rw [e] at h; omega⟩
  | [c], cur => ⟨fun _ => by rw [lnsF], fun i h => by
      have e : Lib.index [c] [13, 10] = -1 := by rw [index_cons, prefix_no (p := [13, 10]) (by simp)]; rfl
      rw [e] at h; omega⟩
  | c :: d :: r, cur => by
    by_cases hc : c = 13 ∧ d = 10
    · obtain ⟨rfl, rfl⟩ := hc
      have hx : Lib.index (13 :: 10 :: r) [13, 10] = 0 := by rw [index_cons, prefix_take (p := [13, 10]) rfl]; rfl
      refine ⟨fun h => absurd (hx.symm.trans h) (by decide), fun i h => ?_⟩
      rw [hx] at h
      obtain rfl : i = 0 := by omega
      rw [lns_cut1]; simp
    · have hp : ([13, 10] : List UInt8).isPrefixOf (c :: d :: r) = false := prefix_no (by
        intro e
        simp only [List.length_cons, List.length_nil, Nat.zero_add, List.take_succ_cons, List.take_zero, List.cons.injEq, and_true] at e
        exact hc e)
      have hx : Lib.index (c :: d :: r) [13, 10] = if Lib.index (d :: r) [13, 10] == -1 then -1 else Lib.index (d :: r) [13, 10] + 1 := by
        rw [index_cons, hp, if_neg Bool.false_ne_true]
      obtain ⟨i1, i2⟩ := lns_index (d :: r) (cur ++ [c])
      rw [lns_on1 hc]
      by_cases hm : Lib.index (d :: r) [13, 10] = -1
      · rw [if_pos (beq_iff_eq.2 hm)] at hx
        refine ⟨fun _ => by rw [i1 hm, List.append_assoc]; rfl, fun i h => ?_⟩
        rw [hx] at h; omega
      · rw [if_neg (fun e => hm (beq_iff_eq.1 e))] at hx
        have hge := Lib.index_ge (d :: r) [13, 10]
        refine ⟨fun h => by rw [hx] at h; omega, fun i h => ?_⟩
        rw [hx] at h
        obtain ⟨j, rfl⟩ : ∃ j, i = j + 1 := ⟨i - 1, by omega⟩
        rw [i2 j (by omega), List.append_assoc]
        rfl
theorem split_lns : ∀ (n : Nat) (s : List UInt8), s.length ≤ n → Lib.splitK [13, 10] 0 (Lib.count s [13, 10]) s = lnsF [] s
  | n, s, hn => by
    have hge := Lib.index_ge s [13, 10]
    obtain ⟨i1, i2⟩ := lns_index s []
    by_cases hm : Lib.index s [13, 10] = -1
    · rw [Lib.count_miss hm, i1 hm]; rfl
    · obtain ⟨j, hj⟩ : ∃ j : Nat, Lib.index s [13, 10] = j := ⟨(Lib.index s [13, 10]).toNat, by omega⟩
      have hne : s ≠ [] := by rintro rfl; exact hm rfl
      have hpos : 0 < s.length := List.length_pos_iff.2 hne
      rw [Lib.count_hit (by simp) hj, Nat.add_comm, Lib.splitK, if_neg (fun e => hm (beq_iff_eq.1 e)), hj, i2 j hj]
      have hl : ([13, 10] : List UInt8).length = 2 := rfl
      rw [hl, Int.toNat_natCast, Nat.add_zero, List.nil_append]
      obtain ⟨m, rfl⟩ : ∃ m, n = m + 1 := ⟨n - 1, by omega⟩
      rw [split_lns m (s.drop (j + 2)) (by rw [List.length_drop]; omega)]

/-! Digits. -/
def dgtB (c : UInt8) : Bool := decide (48 ≤ c.toNat) && decide (c.toNat ≤ 57)
def digL : List UInt8 := [48, 49, 50, 51, 52, 53, 54, 55, 56, 57]
theorem dig_in (c : UInt8) : digL.contains c = dgtB c := by
  have h : ∀ n : Fin 256, digL.contains (UInt8.ofNat n.1) = dgtB (UInt8.ofNat n.1) := by decide +kernel
  have := h ⟨c.toNat, c.toNat_lt⟩
  rwa [UInt8.ofNat_toNat] at this
theorem drop_every {p : UInt8 → Bool} : ∀ l : List UInt8, (∀ c ∈ l, p c = true) → l.dropWhile p = []
  | [], _ => rfl
  | c :: r, h => by rw [List.dropWhile_cons, if_pos (h c (List.mem_cons_self ..))]; exact drop_every r fun d hd => h d (List.mem_cons_of_mem _ hd)
theorem drop_none {p : UInt8 → Bool} : ∀ l : List UInt8, (∀ c ∈ l.dropWhile p, p c = true) → l.dropWhile p = []
  | [], _ => rfl
  | c :: r, h => by
    rw [List.dropWhile_cons] at h ⊢
    by_cases hc : p c = true
    · rw [if_pos hc] at h ⊢; exact drop_none r h
    · rw [if_neg hc] at h; exact absurd (h c (List.mem_cons_self ..)) hc
theorem trim_dig (s : List UInt8) : Lib.trimS s digL = [] ↔ s.all dgtB = true := by
  unfold Lib.trimS Lib.trimLeftS Lib.trimRightS
  have e : (fun c => digL.contains c) = dgtB := funext dig_in
  rw [e]
  constructor
  · intro h
    have h2 := dropWhile_nil h
    have h3 := drop_none s.reverse fun c hc => h2 c (List.mem_reverse.2 hc)
    have h4 := dropWhile_nil h3
    exact List.all_eq_true.2 fun c hc => h4 c (List.mem_reverse.2 hc)
  · intro h
    refine drop_every _ fun c hc => ?_
    have h2 := List.mem_reverse.1 hc
    exact List.all_eq_true.1 h c (List.mem_reverse.1 ((List.dropWhile_sublist (p := dgtB)).subset h2))
theorem numGo_dig : ∀ (s : List UInt8) (n : Nat), (numGo n s ≠ none ↔ s.all dgtB = true)
  | [], n => by simp [numGo]
  | c :: r, n => by
    rw [numGo, List.all_cons]
    by_cases h : 48 ≤ c.toNat ∧ c.toNat ≤ 57
    · rw [if_pos h, numGo_dig r, show dgtB c = true by unfold dgtB; simp; exact h, Bool.true_and]
    · rw [if_neg h, show dgtB c = false by unfold dgtB; rw [Bool.and_eq_false_iff, decide_eq_false_iff_not, decide_eq_false_iff_not]; omega, Bool.false_and]; simp
theorem numF_dig (s : List UInt8) : numF s ≠ none ↔ s ≠ [] ∧ s.all dgtB = true := by
  unfold numF
  by_cases h : s = []
  · rw [if_pos h]; simp [h]
  · rw [if_neg h, numGo_dig]; simp [h]
/-- As the landed package counts. -/
def cntS (n d : Nat) : Nat := min (n * 10 + d) 4097
def cntGo (n : Nat) (s : List UInt8) : Nat := s.foldl (fun n c => cntS n (c.toNat - 48)) n
theorem cntS_le (n d : Nat) : cntS n d ≤ 4097 := Nat.min_le_right _ _
theorem cntGo_nil (n : Nat) : cntGo n [] = n := by unfold cntGo; rw [List.foldl_nil]
theorem cntGo_cons (n : Nat) (c : UInt8) (r : List UInt8) : cntGo n (c :: r) = cntGo (cntS n (c.toNat - 48)) r := by unfold cntGo; rw [List.foldl_cons]
theorem cnt_le (s : List UInt8) : ∀ n : Nat, n ≤ 4097 → cntGo n s ≤ 4097 := by
  induction s with
  | nil => intro n h; rw [cntGo_nil]; exact h
  | cons c r ih => intro n h; rw [cntGo_cons]; exact ih _ (cntS_le _ _)
theorem cnt_step (n m d : Nat) (h : (n = m ∧ m ≤ 4096) ∨ (n = 4097 ∧ 4096 < m)) :
    (cntS n d = min (10 * m + d) 5000 ∧ min (10 * m + d) 5000 ≤ 4096) ∨ (cntS n d = 4097 ∧ 4096 < min (10 * m + d) 5000) := by
  unfold cntS; omega
theorem cnt_num (s : List UInt8) : ∀ n m M : Nat, ((n = m ∧ m ≤ 4096) ∨ (n = 4097 ∧ 4096 < m)) → numGo m s = some M → (cntGo n s = M ∧ M ≤ 4096) ∨ (cntGo n s = 4097 ∧ 4096 < M) := by
  induction s with
  | nil =>
    intro n m M h hm
    rw [numGo] at hm
    obtain rfl := Option.some.inj hm
    rw [cntGo_nil]
    exact h
  | cons c r ih =>
    intro n m M h hm
    rw [numGo] at hm
    by_cases hc : 48 ≤ c.toNat ∧ c.toNat ≤ 57
    · rw [if_pos hc] at hm
      rw [cntGo_cons]
      exact ih _ _ M (cnt_step n m (c.toNat - 48) h) hm
    · rw [if_neg hc] at hm; cases hm

/-! Fields. -/
def pfF (l : List UInt8) : List UInt8 × List UInt8 := ((parseF l).1, (parseF l).2.1)
def manyF (t : List UInt8) : List (List UInt8 × List UInt8) → Nat
  | [] => 0
  | f :: fs => (alikeF f.1 t).toNat + manyF t fs
def firstF (t : List UInt8) : List (List UInt8 × List UInt8) → List UInt8
  | [] => []
  | f :: fs => if alikeF f.1 t = true then f.2 else firstF t fs
theorem many_cons (t : List UInt8) (f : List UInt8 × List UInt8) (fs : List (List UInt8 × List UInt8)) : manyF t (f :: fs) = (alikeF f.1 t).toNat + manyF t fs := rfl
theorem many_zero {t : List UInt8} : ∀ {fs : List (List UInt8 × List UInt8)}, manyF t fs = 0 ↔ ∀ f ∈ fs, alikeF f.1 t = false
  | [] => ⟨fun _ f hf => (by cases hf), fun _ => rfl⟩
  | g :: fs => by
    rw [many_cons]
    cases hg : alikeF g.1 t
    · simp only [Bool.toNat_false, Nat.zero_add, List.mem_cons, forall_eq_or_imp, hg, true_and]
      exact many_zero
    · simp [hg]
theorem first_none {t : List UInt8} : ∀ {fs : List (List UInt8 × List UInt8)}, manyF t fs = 0 → firstF t fs = []
  | [], _ => rfl
  | g :: fs, h => by
    rw [many_cons] at h
    rw [firstF]
    cases hg : alikeF g.1 t
    · rw [if_neg Bool.false_ne_true]; exact first_none (by omega)
    · rw [hg] at h; simp at h
/-- The first one is one. -/
theorem first_some {t : List UInt8} : ∀ {fs : List (List UInt8 × List UInt8)}, manyF t fs ≠ 0 → ∃ f ∈ fs, alikeF f.1 t = true ∧ firstF t fs = f.2
  | [], h => absurd rfl h
  | g :: fs, h => by
    rw [many_cons] at h
    rw [firstF]
    cases hg : alikeF g.1 t
    · rw [if_neg Bool.false_ne_true]
      obtain ⟨f, h1, h2, h3⟩ := first_some (t := t) (fs := fs) (by rw [hg] at h; simpa using h)
      exact ⟨f, List.mem_cons_of_mem _ h1, h2, h3⟩
    · rw [if_pos rfl]
      exact ⟨g, List.mem_cons_self .., hg, rfl⟩
/-- The only one is the first one. -/
theorem first_only {t : List UInt8} : ∀ {fs : List (List UInt8 × List UInt8)}, manyF t fs = 1 → ∀ f ∈ fs, alikeF f.1 t = true → f.2 = firstF t fs
  | g :: fs, h, f, hf, ha => by
    rw [many_cons] at h
    rw [firstF]
    cases hg : alikeF g.1 t
    · rw [hg] at h
      rw [if_neg Bool.false_ne_true]
      rcases List.mem_cons.1 hf with rfl | hm
      · rw [hg] at ha; cases ha
      · exact first_only (by simpa using h) f hm ha
    · rw [hg] at h
      have hz : manyF t fs = 0 := by simpa using h
      rw [if_pos rfl]
      rcases List.mem_cons.1 hf with rfl | hm
      · rfl
      · rw [many_zero.1 hz f hm] at ha; cases ha
/-- What the lines say, all of it may be. -/
def GoodH (h : Hs) (ls : List (List UInt8)) : Prop :=
  (∀ l ∈ ls, (parseF l).2.2 = true) ∧ (∀ l ∈ ls, alikeF (parseF l).1 teL = true → alikeF (parseF l).2.1 chL = true) ∧
  ∃ v, ∀ l ∈ ls, alikeF (parseF l).1 clL = true → (parseF l).2.1 = v ∧ numF v ≠ none ∧ (h.len ≠ none → v = h.text)
def nextH (h : Hs) (l : List UInt8) : Hs := {
    fs := h.fs ++ [((parseF l).1, (parseF l).2.1)]
    hosts := h.hosts + (alikeF (parseF l).1 hostL).toNat
    coded := h.coded + (alikeF (parseF l).1 teL).toNat
    len := if alikeF (parseF l).1 clL = true then numF (parseF l).2.1 else h.len
    text := if alikeF (parseF l).1 clL = true then (parseF l).2.1 else h.text
    cl := h.cl || (alikeF (parseF l).1 coL && hasF (parseF l).2.1 closeL) }
theorem lineH_some {h h' : Hs} {l : List UInt8} (e : lineH h l = some h') : h' = nextH h l ∧ (parseF l).2.2 = true ∧ (alikeF (parseF l).1 teL = true → alikeF (parseF l).2.1 chL = true) ∧
    (alikeF (parseF l).1 clL = true → numF (parseF l).2.1 ≠ none ∧ (h.len ≠ none → (parseF l).2.1 = h.text)) := by
  unfold lineH at e
  split at e
  · cases e
  · rename_i h1
    split at e
    · cases e
    · rename_i h2
      split at e
      · cases e
      · rename_i h3
        cases e
        refine ⟨rfl, by simpa using h1, fun ha => ?_, fun ha => ⟨fun hn => h3 ⟨ha, .inl hn⟩, fun hl => ?_⟩⟩
        · cases hc : alikeF (parseF l).2.1 chL
          · exact absurd ⟨ha, hc⟩ h2
          · rfl
        · exact Classical.byContradiction fun hne => h3 ⟨ha, .inr ⟨hl, hne⟩⟩
theorem lineH_good {h : Hs} {l : List UInt8} (h1 : (parseF l).2.2 = true) (h2 : alikeF (parseF l).1 teL = true → alikeF (parseF l).2.1 chL = true)
    (h3 : alikeF (parseF l).1 clL = true → numF (parseF l).2.1 ≠ none ∧ (h.len ≠ none → (parseF l).2.1 = h.text)) : lineH h l = some (nextH h l) := by
  unfold lineH
  rw [if_neg (by rw [h1]; simp), if_neg (fun e => by rw [h2 e.1] at e; cases e.2), if_neg (fun e => by
    obtain ⟨a, b⟩ := h3 e.1
    rcases e.2 with c | ⟨c, d⟩
    · exact a c
    · exact d (b c))]
  rfl
/-- What the lines said. -/
structure SaidH (h h' : Hs) (ls : List (List UInt8)) : Prop where
  fs : h'.fs = h.fs ++ ls.map pfF
  hosts : h'.hosts = h.hosts + manyF hostL (ls.map pfF)
  coded : h'.coded = h.coded + manyF teL (ls.map pfF)
  len : (manyF clL (ls.map pfF) = 0 ∧ h'.len = h.len ∧ h'.text = h.text) ∨ (manyF clL (ls.map pfF) ≠ 0 ∧ h'.len = numF (firstF clL (ls.map pfF)))
  cl : h'.cl = (h.cl || (ls.map pfF).any fun f => alikeF f.1 coL && hasF f.2 closeL)
theorem linesH_some : ∀ (ls : List (List UInt8)) (h h' : Hs), linesH h ls = some h' → GoodH h ls ∧ SaidH h h' ls
  | [], h, h', e => by
    rw [linesH] at e
    cases e
    exact ⟨⟨by simp, by simp, [], by simp⟩, ⟨by simp, rfl, rfl, .inl ⟨rfl, rfl, rfl⟩, by simp⟩⟩
  | l :: r, h, h', e => by
    rw [linesH] at e
    cases hl : lineH h l with
    | none => rw [hl] at e; cases e
    | some h1 =>
      rw [hl] at e
      dsimp only at e
      obtain ⟨rfl, a1, a2, a3⟩ := lineH_some hl
      obtain ⟨⟨g1, g2, v, g3⟩, s⟩ := linesH_some r _ h' e
      have hmc : ∀ t, manyF t ((l :: r).map pfF) = (alikeF (parseF l).1 t).toNat + manyF t (r.map pfF) := fun t => by rw [List.map_cons, many_cons]; rfl
      refine ⟨⟨?_, ?_, ?_⟩, ?_⟩
      · intro x hx
        rcases List.mem_cons.1 hx with rfl | hx
        · exact a1
        · exact g1 x hx
      · intro x hx
        rcases List.mem_cons.1 hx with rfl | hx
        · exact a2
        · exact g2 x hx
      · cases hc : alikeF (parseF l).1 clL
        · refine ⟨v, fun x hx hxa => ?_⟩
          rcases List.mem_cons.1 hx with rfl | hx
          · rw [hc] at hxa; cases hxa
          · have := g3 x hx hxa
            have e1 : (nextH h l).len = h.len := by unfold nextH; dsimp only; rw [if_neg (by rw [hc]; exact Bool.false_ne_true)]
            have e2 : (nextH h l).text = h.text := by unfold nextH; dsimp only; rw [if_neg (by rw [hc]; exact Bool.false_ne_true)]
            rw [e1, e2] at this
            exact this
        · have e1 : (nextH h l).len = numF (parseF l).2.1 := by unfold nextH; dsimp only; rw [if_pos hc]
          have e2 : (nextH h l).text = (parseF l).2.1 := by unfold nextH; dsimp only; rw [if_pos hc]
          obtain ⟨b1, b2⟩ := a3 hc
          refine ⟨(parseF l).2.1, fun x hx hxa => ?_⟩
          rcases List.mem_cons.1 hx with rfl | hx
          · exact ⟨rfl, b1, b2⟩
          · have := g3 x hx hxa
            rw [e1, e2] at this
            have hv := this.2.2 b1
            exact ⟨by rw [this.1, hv], b1, b2⟩
      · refine ⟨?_, ?_, ?_, ?_, ?_⟩
        · rw [s.fs]; unfold nextH; dsimp only; rw [List.map_cons, List.append_assoc]; rfl
        · rw [s.hosts, hmc]; unfold nextH; dsimp only; omega
        · rw [s.coded, hmc]; unfold nextH; dsimp only; omega
        · rw [hmc]
          cases hc : alikeF (parseF l).1 clL
          · have e1 : (nextH h l).len = h.len := by unfold nextH; dsimp only; rw [if_neg (by rw [hc]; exact Bool.false_ne_true)]
            have e2 : (nextH h l).text = h.text := by unfold nextH; dsimp only; rw [if_neg (by rw [hc]; exact Bool.false_ne_true)]
            have e3 : firstF clL ((l :: r).map pfF) = firstF clL (r.map pfF) := by
              rw [List.map_cons, firstF]
              exact if_neg (by show ¬ alikeF (parseF l).1 clL = true; rw [hc]; exact Bool.false_ne_true)
            rw [e3]
            rcases s.len with ⟨m1, m2, m3⟩ | ⟨m1, m2⟩
            · exact .inl ⟨by rw [m1]; rfl, by rw [m2, e1], by rw [m3, e2]⟩
            · exact .inr ⟨by simpa using m1, m2⟩
          · have e1 : (nextH h l).len = numF (parseF l).2.1 := by unfold nextH; dsimp only; rw [if_pos hc]
            have e2 : (nextH h l).text = (parseF l).2.1 := by unfold nextH; dsimp only; rw [if_pos hc]
            have e3 : firstF clL ((l :: r).map pfF) = (parseF l).2.1 := by
              rw [List.map_cons, firstF]
              exact if_pos hc
            obtain ⟨b1, _⟩ := a3 hc
            rw [e3]
            refine .inr ⟨by simp, ?_⟩
            rcases s.len with ⟨m1, m2, m3⟩ | ⟨m1, m2⟩
            · rw [m2, e1]
            · obtain ⟨f, hf, hfa, hff⟩ := first_some m1
              obtain ⟨x, hx, rfl⟩ := List.mem_map.1 hf
              have := g3 x hx hfa
              rw [e1, e2] at this
              have hv := this.2.2 b1
              rw [m2, hff, ← hv, ← this.1]; rfl
        · rw [s.cl]; unfold nextH; dsimp only; rw [List.map_cons, List.any_cons, Bool.or_assoc]; rfl
theorem linesH_good : ∀ (ls : List (List UInt8)) (h : Hs), GoodH h ls → ∃ h', linesH h ls = some h'
  | [], h, _ => ⟨h, rfl⟩
  | l :: r, h, ⟨g1, g2, v, g3⟩ => by
    have h1 := lineH_good (h := h) (g1 l (List.mem_cons_self ..)) (g2 l (List.mem_cons_self ..)) (fun ha => by
      have := g3 l (List.mem_cons_self ..) ha
      exact ⟨by rw [this.1]; exact this.2.1, fun hl => by rw [this.1]; exact this.2.2 hl⟩)
    rw [linesH, h1]
    refine linesH_good r _ ⟨fun x hx => g1 x (List.mem_cons_of_mem _ hx), fun x hx => g2 x (List.mem_cons_of_mem _ hx), v, fun x hx hxa => ?_⟩
    have hx3 := g3 x (List.mem_cons_of_mem _ hx) hxa
    refine ⟨hx3.1, hx3.2.1, fun hl => ?_⟩
    unfold nextH at hl ⊢
    dsimp only at hl ⊢
    cases hc : alikeF (parseF l).1 clL
    · rw [hc, if_neg Bool.false_ne_true] at hl
      rw [if_neg Bool.false_ne_true]
      exact hx3.2.2 hl
    · rw [if_pos rfl]
      exact (g3 l (List.mem_cons_self ..) hc).1.symm

/-! A head, as the landed package reads it. -/
def reqF (l0 : List UInt8) (ls : List (List UInt8)) : Rq :=
  ⟨(lineF l0).1, (targetF (lineF l0).2.1).1, (targetF (lineF l0).2.1).2.1, (lineF l0).2.2.1, ls.map pfF, [], ((ls.map pfF).any fun f => alikeF f.1 coL && hasF f.2 closeL) || (lineF l0).2.2.1 == 10⟩
def reqOk (l0 : List UInt8) (ls : List (List UInt8)) : Prop := (lineF l0).2.2.2 = true ∧ (targetF (lineF l0).2.1).2.2 = true ∧ ∀ l ∈ ls, (parseF l).2.2 = true
def hostOk (v : Nat) (fs : List (List UInt8 × List UInt8)) : Prop := v ≠ 11 ∨ manyF hostL fs = 1
def encOk (v : Nat) (fs : List (List UInt8 × List UInt8)) : Prop := manyF teL fs = 0 ∨ (manyF teL fs = 1 ∧ manyF clL fs = 0 ∧ v ≠ 10 ∧ alikeF (firstF teL fs) chL = true)
def lenOk (fs : List (List UInt8 × List UInt8)) : Prop := (∀ f ∈ fs, alikeF f.1 clL = true → f.2 = firstF clL fs) ∧ (manyF clL fs = 0 ∨ (firstF clL fs ≠ [] ∧ (firstF clL fs).all dgtB = true))
/-- What the document's way says of a head, by the landed one's tests. -/
theorem head_landed (l0 : List UInt8) (ls : List (List UInt8)) :
    (32 < ls.length → headL (l0 :: ls) = .bad 431) ∧
    (ls.length ≤ 32 → ¬ (reqOk l0 ls ∧ hostOk (lineF l0).2.2.1 (ls.map pfF) ∧ encOk (lineF l0).2.2.1 (ls.map pfF) ∧ lenOk (ls.map pfF)) → headL (l0 :: ls) = .bad 400) ∧
    (ls.length ≤ 32 → reqOk l0 ls → hostOk (lineF l0).2.2.1 (ls.map pfF) → encOk (lineF l0).2.2.1 (ls.map pfF) → lenOk (ls.map pfF) →
      (4096 < cntGo 0 (firstF clL (ls.map pfF)) → headL (l0 :: ls) = .bad 413) ∧
      (cntGo 0 (firstF clL (ls.map pfF)) ≤ 4096 → headL (l0 :: ls) = .ok (reqF l0 ls) (if 0 < manyF teL (ls.map pfF) then none else some (cntGo 0 (firstF clL (ls.map pfF)))) ∧ (0 < manyF teL (ls.map pfF) → cntGo 0 (firstF clL (ls.map pfF)) = 0))) := by
  have hone : ∀ a : Nat, ¬ (a = 0) → ¬ 1 < a → a = 1 := fun a _ _ => by omega
  refine ⟨fun h => ?_, fun hl hn => ?_, fun hl hr hh he hlen => ?_⟩
  · unfold headL; dsimp only; rw [if_pos (by simp only [List.length_cons]; omega)]
  · unfold headL; dsimp only
    rw [if_neg (by simp only [List.length_cons]; omega)]
    by_cases hlt : (lineF l0).2.2.2 = false ∨ (targetF (lineF l0).2.1).2.2 = false
    · rw [if_pos hlt]
    · rw [if_neg hlt]
      cases hx : linesH ⟨[], 0, 0, none, [], (lineF l0).2.2.1 == 10⟩ ls with
      | none => rfl
      | some h =>
        obtain ⟨⟨g1, g2, v, g3⟩, s⟩ := linesH_some _ _ _ hx
        dsimp only
        by_cases hc : ((lineF l0).2.2.1 = 11 ∧ h.hosts ≠ 1) ∨ 1 < h.coded ∨ (h.coded = 1 ∧ ((lineF l0).2.2.1 = 10 ∨ h.len ≠ none))
        · rw [if_pos hc]
        · exfalso
          have hs := s.hosts
          have hcd := s.coded
          dsimp only at hs hcd
          rw [Nat.zero_add] at hs hcd
          refine hn ⟨⟨?_, ?_, g1⟩, ?_, ?_, ?_, ?_⟩
          · cases e : (lineF l0).2.2.2
            · exact absurd (.inl e) hlt
            · rfl
          · cases e : (targetF (lineF l0).2.1).2.2
            · exact absurd (.inr e) hlt
            · rfl
          · unfold hostOk
            by_cases h11 : (lineF l0).2.2.1 = 11
            · refine .inr ?_
              rw [← hs]
              exact Classical.byContradiction fun e => hc (.inl ⟨h11, e⟩)
            · exact .inl h11
          · unfold encOk
            by_cases h0 : manyF teL (ls.map pfF) = 0
            · exact .inl h0
            · have h1 : manyF teL (ls.map pfF) = 1 := by
                rw [← hcd] at h0 ⊢
                exact hone _ h0 (fun e => hc (.inr (.inl e)))
              refine .inr ⟨h1, ?_, ?_, ?_⟩
              · rcases s.len with ⟨m, _⟩ | ⟨m1, m2⟩
                · exact m
                · exfalso
                  obtain ⟨f, hf, hfa, hff⟩ := first_some m1
                  obtain ⟨x, hx, rfl⟩ := List.mem_map.1 hf
                  have hgx := g3 x hx hfa
                  refine hc (.inr (.inr ⟨by rw [hcd, h1], .inr ?_⟩))
                  rw [m2, hff]
                  show numF (parseF x).2.1 ≠ none
                  rw [hgx.1]; exact hgx.2.1
              · exact fun e => hc (.inr (.inr ⟨by rw [hcd, h1], .inl e⟩))
              · obtain ⟨f, hf, hfa, hff⟩ := first_some (t := teL) (fs := ls.map pfF) (by omega)
                obtain ⟨x, hx, rfl⟩ := List.mem_map.1 hf
                rw [hff]
                exact g2 x hx hfa
          · intro f hf hfa
            obtain ⟨x, hx, rfl⟩ := List.mem_map.1 hf
            have hne : manyF clL (ls.map pfF) ≠ 0 := fun e => by rw [many_zero.1 e _ hf] at hfa; cases hfa
            obtain ⟨f2, hf2, hfa2, hff2⟩ := first_some hne
            obtain ⟨x2, hx2, rfl⟩ := List.mem_map.1 hf2
            rw [hff2]
            exact (g3 x hx hfa).1.trans (g3 x2 hx2 hfa2).1.symm
          · by_cases hne : manyF clL (ls.map pfF) = 0
            · exact .inl hne
            · obtain ⟨f2, hf2, hfa2, hff2⟩ := first_some hne
              obtain ⟨x2, hx2, rfl⟩ := List.mem_map.1 hf2
              refine .inr ?_
              rw [hff2]
              have := g3 x2 hx2 hfa2
              exact (numF_dig _).1 (by show numF (parseF x2).2.1 ≠ none; rw [this.1]; exact this.2.1)
  · obtain ⟨r1, r2, r3⟩ := hr
    have hg : GoodH ⟨[], 0, 0, none, [], (lineF l0).2.2.1 == 10⟩ ls := by
      refine ⟨r3, fun l hm ha => ?_, firstF clL (ls.map pfF), fun l hm ha => ⟨?_, ?_, fun hne => absurd rfl hne⟩⟩
      · rcases he with h0 | ⟨h1, _, _, h4⟩
        · have := many_zero.1 h0 (pfF l) (List.mem_map.2 ⟨l, hm, rfl⟩)
          rw [show (pfF l).1 = (parseF l).1 from rfl, ha] at this; cases this
        · have := first_only h1 (pfF l) (List.mem_map.2 ⟨l, hm, rfl⟩) ha
          rw [show (parseF l).2.1 = (pfF l).2 from rfl, this]; exact h4
      · exact hlen.1 (pfF l) (List.mem_map.2 ⟨l, hm, rfl⟩) ha
      · rcases hlen.2 with h0 | h1
        · have := many_zero.1 h0 (pfF l) (List.mem_map.2 ⟨l, hm, rfl⟩)
          rw [show (pfF l).1 = (parseF l).1 from rfl, ha] at this; cases this
        · exact (numF_dig _).2 h1
    obtain ⟨h, hx⟩ := linesH_good _ _ hg
    obtain ⟨_, s⟩ := linesH_some _ _ _ hx
    have hs := s.hosts
    have hcd := s.coded
    have hfs := s.fs
    have hcl := s.cl
    have hsl := s.len
    dsimp only at hs hcd hfs hcl hsl
    rw [Nat.zero_add] at hs hcd
    rw [List.nil_append] at hfs
    have hb : ¬ (((lineF l0).2.2.1 = 11 ∧ h.hosts ≠ 1) ∨ 1 < h.coded ∨ (h.coded = 1 ∧ ((lineF l0).2.2.1 = 10 ∨ h.len ≠ none))) := by
      rintro (⟨h1, h2⟩ | h1 | ⟨h1, h2⟩)
      · rw [hs] at h2
        rcases hh with h3 | h3
        · exact h3 h1
        · exact h2 h3
      · rw [hcd] at h1
        rcases he with h3 | ⟨h3, _⟩ <;> omega
      · rw [hcd] at h1
        rcases he with h3 | ⟨_, h3, h4, _⟩
        · omega
        · rcases h2 with h2 | h2
          · exact h4 h2
          · rcases hsl with ⟨_, m, _⟩ | ⟨m, _⟩
            · exact h2 m
            · exact m h3
    have hnum : (cntGo 0 (firstF clL (ls.map pfF)) = h.len.getD 0 ∧ h.len.getD 0 ≤ 4096) ∨ (cntGo 0 (firstF clL (ls.map pfF)) = 4097 ∧ 4096 < h.len.getD 0) := by
      rcases hsl with ⟨m1, m2, _⟩ | ⟨m1, m2⟩
      · rw [first_none m1, m2, cntGo_nil]; exact .inl ⟨rfl, by simp⟩
      · rcases hlen.2 with h0 | h1
        · exact absurd h0 m1
        · obtain ⟨M, hM⟩ := Option.ne_none_iff_exists'.1 ((numF_dig _).2 h1)
          rw [m2, hM]
          unfold numF at hM
          rw [if_neg h1.1] at hM
          exact cnt_num _ 0 0 M (.inl ⟨rfl, by omega⟩) hM
    have hrq : (⟨(lineF l0).1, (targetF (lineF l0).2.1).1, (targetF (lineF l0).2.1).2.1, (lineF l0).2.2.1, h.fs, [], h.cl⟩ : Rq) = reqF l0 ls := by
      unfold reqF
      rw [hfs, hcl, Bool.or_comm]
    have hte : 0 < manyF teL (ls.map pfF) → cntGo 0 (firstF clL (ls.map pfF)) = 0 := fun hp => by
      rcases he with h3 | ⟨_, h3, _⟩
      · omega
      · rw [first_none h3, cntGo_nil]
    unfold headL
    dsimp only
    rw [if_neg (by simp only [List.length_cons]; omega), if_neg (by rw [r1, r2]; simp), hx]
    dsimp only
    rw [if_neg hb]
    by_cases hc1 : h.coded = 1
    · rw [if_pos hc1]
      rw [hcd] at hc1
      have h0 := hte (by omega)
      refine ⟨fun h4 => by omega, fun _ => ⟨?_, hte⟩⟩
      rw [if_pos (by omega), hrq]
    · rw [if_neg hc1]
      rw [hcd] at hc1
      have hz : ¬ 0 < manyF teL (ls.map pfF) := by rcases he with h3 | ⟨h3, _⟩ <;> omega
      refine ⟨fun h4 => ?_, fun h4 => ⟨?_, hte⟩⟩
      · rw [if_pos (by omega)]
      · rw [if_neg (by omega), if_neg hz, hrq]
        rcases hnum with ⟨n1, _⟩ | ⟨n1, _⟩
        · rw [n1]
        · omega
end Go.Proofs.YtplajlccnnbifaaGreatDoor
/- Bytes compared with numbers. -/
namespace Go.Proofs.YtplajlccnnbifaaGreatDoor
open Go.RowKit

theorem B_geq (t : TypeId) (x : UInt8) (k : Int) : binOp .geq t (B x) (.int .u8 k) = pure (.bool (decide (k ≤ (x.toNat : Int)))) := rfl
theorem B_leq (t : TypeId) (x : UInt8) (k : Int) : binOp .leq t (B x) (.int .u8 k) = pure (.bool (decide ((x.toNat : Int) ≤ k))) := rfl
theorem B_add32 (t : TypeId) (x : UInt8) (h : x.toNat ≤ 90) : binOp .add t (B x) (.int .u8 32) = pure (B (x + 32)) := by
  have e : ((x + 32).toNat : Int) = (x.toNat : Int) + 32 := by rw [UInt8.toNat_add]; show (((x.toNat + 32) % 256 : Nat) : Int) = _; omega
  have hw : IntKind.u8.wrap ((x.toNat : Int) + 32) = (x.toNat : Int) + 32 := by rw [IntKind.wrap_u8]; omega
  simp only [B, e]
  show pure (Value.int .u8 (IntKind.u8.wrap ((x.toNat : Int) + 32))) = _
  rw [hw]
theorem neqN (x y : UInt8) : ((x.toNat : Int) != (y.toNat : Int)) = !(x == y) := by
  rw [bne, beqB]
theorem eguard_BN (o1 o2 : Operand) (x : UInt8) (k : Int) : eqGuard .eql 5 o1 o2 (B x) (.int .u8 k) = pure () := rfl
theorem nguard_BN (o1 o2 : Operand) (x : UInt8) (k : Int) : eqGuard .neq 5 o1 o2 (B x) (.int .u8 k) = pure () := rfl
theorem B_neqN (t : TypeId) (x : UInt8) (k : Int) : binOp .neq t (B x) (.int .u8 k) = pure (.bool ((x.toNat : Int) != k)) := rfl
theorem B_eqlN (t : TypeId) (x : UInt8) (k : Int) : binOp .eql t (B x) (.int .u8 k) = pure (.bool ((x.toNat : Int) == k)) := rfl
theorem bad_facts (c : UInt8) : (badB c = false ∧ ((c.toNat : Int) != 9) = false ∧ (c.toNat != 9) = false) ∨
    (badB c = true ∧ ((c.toNat : Int) != 9) = true ∧ (c.toNat != 9) = true ∧ decide ((c.toNat : Int) < 32) = true ∧ decide (c.toNat < 32) = true) ∨
    (badB c = true ∧ ((c.toNat : Int) != 9) = true ∧ (c.toNat != 9) = true ∧ decide ((c.toNat : Int) < 32) = false ∧ decide (c.toNat < 32) = false ∧ ((c.toNat : Int) == 127) = true ∧ (c.toNat == 127) = true) ∨
    (badB c = false ∧ ((c.toNat : Int) != 9) = true ∧ (c.toNat != 9) = true ∧ decide ((c.toNat : Int) < 32) = false ∧ decide (c.toNat < 32) = false ∧ ((c.toNat : Int) == 127) = false ∧ (c.toNat == 127) = false) := by
  have e9 : ((c.toNat : Int) != 9) = (c.toNat != 9) := by rw [Bool.eq_iff_iff, bne_iff_ne, bne_iff_ne]; omega
  have e32 : decide ((c.toNat : Int) < 32) = decide (c.toNat < 32) := by rw [Bool.eq_iff_iff, decide_eq_true_iff, decide_eq_true_iff]; omega
  have e127 : ((c.toNat : Int) == 127) = (c.toNat == 127) := by rw [Bool.eq_iff_iff, beq_iff_eq, beq_iff_eq]; omega
  unfold badB
  rw [e9, e32, e127]
  cases h9 : c.toNat != 9 <;> cases h32 : decide (c.toNat < 32) <;> cases h127 : c.toNat == 127 <;> simp
theorem colon_facts (c : UInt8) : (c = 58 ∧ ((c.toNat : Int) != 58) = false ∧ (c.toNat != 58) = false) ∨ (c ≠ 58 ∧ ((c.toNat : Int) != 58) = true ∧ (c.toNat != 58) = true) := by
  by_cases h : c = 58
  · subst h; exact .inl ⟨rfl, rfl, rfl⟩
  · have h2 : c.toNat ≠ 58 := fun e => h (UInt8.toNat_inj.1 (by rw [e]; rfl))
    exact .inr ⟨h, by rw [bne_iff_ne]; omega, by rw [bne_iff_ne]; exact h2⟩
theorem blank_facts (c : UInt8) : (blankB c = true ∧ ((c.toNat : Int) == 9) = true ∧ (c.toNat == 9) = true) ∨ (blankB c = true ∧ ((c.toNat : Int) == 9) = false ∧ (c.toNat == 9) = false ∧ ((c.toNat : Int) == 32) = true ∧ (c.toNat == 32) = true) ∨
    (blankB c = false ∧ ((c.toNat : Int) == 9) = false ∧ (c.toNat == 9) = false ∧ ((c.toNat : Int) == 32) = false ∧ (c.toNat == 32) = false) := by
  unfold blankB
  have e9 : ((c.toNat : Int) == 9) = (c.toNat == 9) := by rw [Bool.eq_iff_iff, beq_iff_eq, beq_iff_eq]; omega
  have e32 : ((c.toNat : Int) == 32) = (c.toNat == 32) := by rw [Bool.eq_iff_iff, beq_iff_eq, beq_iff_eq]; omega
  rw [e9, e32]
  cases h9 : c.toNat == 9 <;> cases h32 : c.toNat == 32 <;> simp
theorem comma_facts (c : UInt8) : (c = 44 ∧ ((c.toNat : Int) == 44) = true ∧ (c.toNat == 44) = true) ∨ (c ≠ 44 ∧ ((c.toNat : Int) == 44) = false ∧ (c.toNat == 44) = false) := by
  by_cases h : c = 44
  · subst h; exact .inl ⟨rfl, rfl, rfl⟩
  · have h2 : c.toNat ≠ 44 := fun e => h (UInt8.toNat_inj.1 (by rw [e]; rfl))
    exact .inr ⟨h, by rw [beq_eq_false_iff_ne]; omega, by rw [beq_eq_false_iff_ne]; exact h2⟩
theorem B_sub65 (t : TypeId) (x : UInt8) (h : 65 ≤ x.toNat) : binOp .sub t (B x) (.int .u8 65) = pure (.int .u8 ((x.toNat : Int) - 65)) := by
  have := x.toNat_lt
  have hw : IntKind.u8.wrap ((x.toNat : Int) - 65) = (x.toNat : Int) - 65 := by rw [IntKind.wrap_u8]; omega
  simp only [B]
  show pure (Value.int .u8 (IntKind.u8.wrap ((x.toNat : Int) - 65))) = _
  rw [hw]
theorem add97 (t : TypeId) (x : UInt8) (h : 65 ≤ x.toNat) (h2 : x.toNat ≤ 90) : binOp .add t (.int .u8 ((x.toNat : Int) - 65)) (.int .u8 97) = pure (B (x + 32)) := by
  have e : ((x + 32).toNat : Int) = (x.toNat : Int) + 32 := by rw [UInt8.toNat_add]; show (((x.toNat + 32) % 256 : Nat) : Int) = _; omega
  have hw : IntKind.u8.wrap ((x.toNat : Int) - 65 + 97) = (x.toNat : Int) + 32 := by rw [IntKind.wrap_u8]; omega
  simp only [B, e]
  show pure (Value.int .u8 (IntKind.u8.wrap ((x.toNat : Int) - 65 + 97))) = _
  rw [hw]
end Go.Proofs.YtplajlccnnbifaaGreatDoor
/- The landed Token walked. -/
namespace Go.Proofs.YtplajlccnnbifaaGreatDoor
open Go.RowKit
attribute [local go_sem] store_one S_match S_store eguard_BN nguard_BN

theorem mark_any (c : UInt8) (w : World) : Calls Tryz.prog 96 #[.string ⟨#[33, 35, 36, 37, 38, 39, 42, 43, 45, 46, 94, 95, 96, 124, 126]⟩, B c] w fun e w' => e = .returned (.int .i64 (Lib.indexByte markL c)) ∧ w' = w := by
  have h := Any.strings_IndexByte Tryz.lays137 ⟨#[33, 35, 36, 37, 38, 39, 42, 43, 45, 46, 94, 95, 96, 124, 126]⟩ (c.toNat : Int) w
  have e : (c.toNat : Int).toNat.toUInt8 = c := by simp
  rw [e] at h
  exact h
set_option maxRecDepth 100000 in
set_option maxHeartbeats 1000000 in
theorem intoken_any (c : UInt8) (w : World) : Calls Tryz.prog 63 #[B c] w fun e w' => e = .returned (.bool (tokB c)) ∧ w' = w := by
  have h1 := B_geq 5 c 65
  have h2 := B_leq 5 c 90
  have h3 := B_geq 5 c 97
  have h4 := B_leq 5 c 122
  have h5 := B_geq 5 c 48
  have h6 := B_leq 5 c 57
  have hE : inTok c.toNat = ((decide (65 ≤ c.toNat) && decide (c.toNat ≤ 90) || decide (97 ≤ c.toNat) && decide (c.toNat ≤ 122)) || (decide (48 ≤ c.toNat) && decide (c.toNat ≤ 57)) || markL.contains c) := by
    unfold inTok; simp only [UInt8.ofNat_toNat]
  rw [Lib.contains_iff_indexByte] at hE
  obtain ⟨j, hj⟩ : ∃ j, j = Lib.indexByte markL c := ⟨_, rfl⟩
  have hmk := mark_any c
  rw [← hj] at hE hmk
  have HM := Lib.hid hmk
  rw [tok_eq, hE]
  clear hE hmk hj
  have fin : ∀ (tk : Bool), Calls Tryz.prog 63 #[B c] w (fun e w' => e = .returned (.bool tk) ∧ w' = w) → ((decide (65 ≤ c.toNat) && decide (c.toNat ≤ 90) || decide (97 ≤ c.toNat) && decide (c.toNat ≤ 122)) || (decide (48 ≤ c.toNat) && decide (c.toNat ≤ 57)) || decide (0 ≤ j)) = tk →
      Calls Tryz.prog 63 #[B c] w (fun e w' => e = .returned (.bool ((decide (65 ≤ c.toNat) && decide (c.toNat ≤ 90) || decide (97 ≤ c.toNat) && decide (c.toNat ≤ 122)) || (decide (48 ≤ c.toNat) && decide (c.toNat ≤ 57)) || decide (0 ≤ j))) ∧ w' = w) := fun tk h e => by rw [e]; exact h
  have hcs : c.toNat < 48 ∨ (48 ≤ c.toNat ∧ c.toNat ≤ 57) ∨ (57 < c.toNat ∧ c.toNat < 65) ∨ (65 ≤ c.toNat ∧ c.toNat ≤ 90) ∨ (90 < c.toNat ∧ c.toNat < 97) ∨ (97 ≤ c.toNat ∧ c.toNat ≤ 122) ∨ 122 < c.toNat := by omega
  rcases hcs with a | a | a | a | a | a | a
  · refine fin (decide (0 ≤ j)) ?_ (by simp; omega)
    rw [decide_eq_false (by omega)] at h1 h3 h5
    clear h2 h4 h6 a fin
    go_enter Tryz.func63, Tryz.ntmps63
    go_wp2_with fail
    refine (HM.out w).mono ?_
    rintro e w1 ⟨rfl, rfl⟩
    go_wp2
    go_ret
    exact ⟨rfl, rfl⟩
  · refine fin (true) ?_ (by simp; omega)
    rw [decide_eq_false (by omega)] at h1 h3
    rw [decide_eq_true (by omega)] at h5 h6
    clear h2 h4 a fin
    go_enter Tryz.func63, Tryz.ntmps63
    go_wp2
    go_ret
    exact ⟨rfl, rfl⟩
  · refine fin (decide (0 ≤ j)) ?_ (by simp; omega)
    rw [decide_eq_false (by omega)] at h1 h3 h6
    rw [decide_eq_true (by omega)] at h5
    clear h2 h4 a fin
    go_enter Tryz.func63, Tryz.ntmps63
    go_wp2_with fail
    refine (HM.out w).mono ?_
    rintro e w1 ⟨rfl, rfl⟩
    go_wp2
    go_ret
    exact ⟨rfl, rfl⟩
  · refine fin (true) ?_ (by simp; omega)
    rw [decide_eq_true (by omega)] at h1 h2
    rw [decide_eq_true (by omega)] at h5
    rw [decide_eq_false (by omega)] at h6
    clear h3 h4 a fin
    go_enter Tryz.func63, Tryz.ntmps63
    go_wp2
    go_ret
    exact ⟨rfl, rfl⟩
  · refine fin (decide (0 ≤ j)) ?_ (by simp; omega)
    rw [decide_eq_true (by omega)] at h1 h5
    rw [decide_eq_false (by omega)] at h2 h3 h6
    clear h4 a fin
    go_enter Tryz.func63, Tryz.ntmps63
    go_wp2_with fail
    refine (HM.out w).mono ?_
    rintro e w1 ⟨rfl, rfl⟩
    go_wp2
    go_ret
    exact ⟨rfl, rfl⟩
  · refine fin (true) ?_ (by simp; omega)
    rw [decide_eq_true (by omega)] at h1 h3 h4 h5
    rw [decide_eq_false (by omega)] at h2 h6
    clear a fin
    go_enter Tryz.func63, Tryz.ntmps63
    go_wp2
    go_ret
    exact ⟨rfl, rfl⟩
  · refine fin (decide (0 ≤ j)) ?_ (by simp; omega)
    rw [decide_eq_true (by omega)] at h1 h3 h5
    rw [decide_eq_false (by omega)] at h2 h4 h6
    clear a fin
    go_enter Tryz.func63, Tryz.ntmps63
    go_wp2_with fail
    refine (HM.out w).mono ?_
    rintro e w1 ⟨rfl, rfl⟩
    go_wp2
    go_ret
    exact ⟨rfl, rfl⟩
set_option maxRecDepth 100000 in
set_option maxHeartbeats 400000 in
/-- All of a text's bytes asked. -/
theorem all_any {f : Nat} {p : UInt8 → Bool} (hf : ∀ c w, Calls Tryz.prog f #[B c] w fun e w' => e = .returned (.bool (p c)) ∧ w' = w) (he : ∀ args w, (callFunc f args).run Tryz.prog w = .ok (.enter f args) w)
    (s : List UInt8) (hs : s.length ≤ 100000) (w : World) : Calls Tryz.prog 62 #[S s, .func (.func f) #[] #[]] w fun e w' => e = .returned (.bool (s.all p)) ∧ w' = w := by
  have hlenS := run_len_S (P := Tryz.prog) Tryz.underlying9 3 s
  have HF := Lib.hid hf
  obtain ⟨L, hL⟩ : ∃ L, L = s.length := ⟨_, rfl⟩
  rw [← hL] at hlenS hs
  have HL := Lib.hid hL
  clear hf hL
  go_enter Tryz.func62, Tryz.ntmps62
  go_wp2
  go_loopw [8] (fun iv wr => ∃ i : Nat, i ≤ L ∧ iv = .int .i64 (i : Int) ∧ wr = w ∧ (s.take i).all p = true) (fun iv _ => L - (intOf iv).toNat)
  case atStart => exact ⟨0, by omega, rfl, rfl, rfl⟩
  case round =>
    obtain ⟨i, hi, rfl, rfl, hn⟩ := hrel
    by_cases hlt : i < L
    · obtain ⟨c, hc⟩ : ∃ c, s[i]? = some c := ⟨s[i]'(by have := HL.out; omega), List.getElem?_eq_getElem _⟩
      have hidx : ∀ w, (Instr.index 9 (S s) (.int .i64 (i : Int))).run Tryz.prog w = .ok (B c) w := fun w => index_S (P := Tryz.prog) Tryz.underlying9 s i c hc w
      have hnx := all_take_next hc hn
      have HF2 := Lib.hid (HF.out c wr)
      clear hn hc
      cases hb : p c with
      | true =>
        have HN := Lib.hid (hnx.trans hb)
        have HB := Lib.hid hb
        clear hnx hb
        go_wp2_with fail
        refine HF2.out.mono ?_
        rintro e w1 ⟨rfl, hw1⟩
        obtain rfl := hw1.symm
        rw [HB.out]
        go_wp2
        exact ⟨⟨i + 1, by omega, by go_num, by trivial, HN.out⟩, by simp [intOf]; omega⟩
      | false =>
        have HN : Hid (s.all p = false) := Lib.hid (by rw [hb] at hnx; exact all_of_take hnx)
        have HB := Lib.hid hb
        clear hnx hb
        go_wp2_with fail
        refine HF2.out.mono ?_
        rintro e w1 ⟨rfl, hw1⟩
        obtain rfl := hw1.symm
        rw [HB.out]
        go_wp2
        go_ret
        exact ⟨by rw [HN.out]; rfl, rfl⟩
    · obtain rfl : i = L := by omega
      have HN : Hid (s.all p = true) := Lib.hid (by rw [HL.out, List.take_length] at hn; exact hn)
      clear hn
      go_wp2
      go_ret
      exact ⟨by rw [HN.out]; rfl, rfl⟩
theorem all_tok (s : List UInt8) (hs : s.length ≤ 100000) (w : World) : Calls Tryz.prog 62 #[S s, .func (.func 63) #[] #[]] w fun e w' => e = .returned (.bool (s.all tokB)) ∧ w' = w :=
  all_any intoken_any (enters_of Tryz.func63 (by kernel_rfl) rfl) s hs w
set_option maxRecDepth 100000 in
set_option maxHeartbeats 400000 in
theorem token15_any (s : List UInt8) (hs : s.length ≤ 100000) (w : World) : Calls Tryz.prog 35 #[S s] w fun e w' => e = .returned (.bool (tokF s)) ∧ w' = w := by
  have hc := all_tok s hs w
  have hn : binOp .neq 9 (S s) (.string ⟨#[]⟩) = pure (.bool (s != [])) := neql_S 9 s []
  have hg : ∀ x y, eqGuard .neq 9 x y (S s) (.string ⟨#[]⟩) = pure () := fun x y => nguard_S 9 x y s []
  unfold tokF
  cases s with
  | nil =>
    rw [show (([] : List UInt8) != []) = false from rfl] at hn
    go_enter Tryz.func35, Tryz.ntmps35
    go_wp2
    go_ret
    exact ⟨rfl, rfl⟩
  | cons c r =>
    rw [show ((c :: r) != []) = true from rfl] at hn
    have e : ((c :: r).all tokB && decide (0 < (c :: r).length)) = (c :: r).all tokB := by simp
    rw [e]
    generalize c :: r = s at *
    have HC := Lib.hid hc
    clear hc e
    go_enter Tryz.func35, Tryz.ntmps35
    go_wp2_with fail
    refine HC.out.mono ?_
    rintro e w1 ⟨rfl, rfl⟩
    go_wp2
    go_ret
    exact ⟨rfl, rfl⟩
end Go.Proofs.YtplajlccnnbifaaGreatDoor
/- The landed field.Alike walked. (mkrw3.py writes it.) -/
namespace Go.Proofs.YtplajlccnnbifaaGreatDoor
open Go.RowKit
attribute [local go_sem] store_one S_match S_store eguard_BN nguard_BN

set_option maxRecDepth 100000 in
set_option maxHeartbeats 400000 in
theorem small_any (c : UInt8) (w : World) : Calls Tryz.prog 66 #[B c] w fun e w' => e = .returned (B (lowB c)) ∧ w' = w := by
  have h1 := B_geq 5 c 65
  have h2 := B_leq 5 c 90
  by_cases ha : 65 ≤ c.toNat
  · by_cases hb : c.toNat ≤ 90
    · have hl : lowB c = c + 32 := by unfold lowB; rw [if_pos ⟨ha, hb⟩]
      have h3 := B_sub65 5 c ha
      have h4 := add97 5 c ha hb
      rw [decide_eq_true (by omega)] at h1 h2
      rw [hl]
      generalize hz : (c.toNat : Int) - 65 = z at h3 h4
      clear hl ha hb hz
      go_enter Tryz.func66, Tryz.ntmps66
      go_wp2
      go_ret
      exact ⟨rfl, rfl⟩
    · have hl : lowB c = c := by unfold lowB; rw [if_neg (fun h => hb h.2)]
      rw [decide_eq_true (by omega)] at h1
      rw [decide_eq_false (by omega)] at h2
      rw [hl]
      clear hl ha hb
      go_enter Tryz.func66, Tryz.ntmps66
      go_wp2
      go_ret
      exact ⟨rfl, rfl⟩
  · have hl : lowB c = c := by unfold lowB; rw [if_neg (fun h => ha h.1)]
    rw [decide_eq_false (by omega)] at h1
    rw [hl]
    clear hl ha h2
    go_enter Tryz.func66, Tryz.ntmps66
    go_wp2
    go_ret
    exact ⟨rfl, rfl⟩
set_option maxRecDepth 100000 in
set_option maxHeartbeats 400000 in
theorem alike16_any (a b : List UInt8) (ha : a.length ≤ 100000) (_hb : b.length ≤ 100000) (w : World) : Calls Tryz.prog 37 #[S a, S b] w fun e w' => e = .returned (.bool (alikeF a b)) ∧ Drawn w w' := by
  have hla := run_len_S (P := Tryz.prog) Tryz.underlying9 3 a
  have hlb := run_len_S (P := Tryz.prog) Tryz.underlying9 3 b
  have HC : Hid (∀ z w, Calls Tryz.prog 66 #[B z] w fun e w' => e = .returned (.int .u8 ((lowB z).toNat : Int)) ∧ Drawn w w') := Lib.hid fun z w => (small_any z w).mono (by rintro e w' ⟨he, rfl⟩; exact ⟨he, Drawn.refl _⟩)
  by_cases hne : a.length = b.length
  · have hq : ((a.length : Int) != (b.length : Int)) = false := by rw [hne]; simp
    have hq' : (a.length != b.length) = false := by rw [hne]; simp
    obtain ⟨L, hL⟩ : ∃ L, L = a.length := ⟨_, rfl⟩
    rw [← hne, ← hL] at hlb
    rw [← hL] at hla
    have HL := Lib.hid (And.intro hL hne)
    rw [← hL] at ha
    clear hq hq' hL hne
    have hq : ((L : Int) != (L : Int)) = false := by simp
    go_enter Tryz.func37, Tryz.ntmps37
    go_wp2
    go_loopw [13] (fun iv wr => ∃ i : Nat, i ≤ L ∧ iv = .int .i64 (i : Int) ∧ Drawn w wr ∧ (a.take i).map lowB = (b.take i).map lowB) (fun iv _ => L - (intOf iv).toNat)
    case atStart => exact ⟨0, Nat.zero_le _, rfl, Drawn.refl _, rfl⟩
    case round =>
      obtain ⟨i, hi, rfl, hD, hm⟩ := hrel
      by_cases hlt : i < L
      · obtain ⟨x, hx⟩ : ∃ x, a[i]? = some x := ⟨a[i]'(by have := HL.out.1; omega), List.getElem?_eq_getElem _⟩
        obtain ⟨y, hy⟩ : ∃ y, b[i]? = some y := ⟨b[i]'(by have := HL.out; omega), List.getElem?_eq_getElem _⟩
        have hix : ∀ w, (Instr.index 9 (S a) (.int .i64 (i : Int))).run Tryz.prog w = .ok (B x) w := fun w => index_S (P := Tryz.prog) Tryz.underlying9 a i x hx w
        have hiy : ∀ w, (Instr.index 9 (S b) (.int .i64 (i : Int))).run Tryz.prog w = .ok (B y) w := fun w => index_S (P := Tryz.prog) Tryz.underlying9 b i y hy w
        have hn := neqN (lowB x) (lowB y)
        by_cases he : lowB x = lowB y
        · have HN := Lib.hid (And.intro hD (map_take_next hx hy hm he))
          rw [beq_iff_eq.2 he, Bool.not_true] at hn
          clear hD hm hx hy he
          go_wp2
          go_quiet (first | (go_at_call 66; exact Calls.quiet_of (HC.out _ _)))
          go_wp2
          exact ⟨⟨i + 1, by omega, by go_num, HN.out.1.trans ⟨_, rfl⟩, HN.out.2⟩, by simp [intOf]; omega⟩
        · have HN := Lib.hid (And.intro hD (alike_stop hx hy he))
          rw [beq_eq_false_iff_ne.2 he, Bool.not_false] at hn
          clear hD hm hx hy he
          go_wp2
          go_quiet (first | (go_at_call 66; exact Calls.quiet_of (HC.out _ _)))
          go_wp2
          go_ret
          exact ⟨by rw [HN.out.2]; rfl, HN.out.1.trans ⟨_, rfl⟩⟩
      · obtain rfl : i = L := by omega
        have HN : Hid (Drawn w wr ∧ alikeF a b = true) := Lib.hid ⟨hD, by
          rw [List.take_of_length_le (by have := HL.out.1; omega), List.take_of_length_le (by have := HL.out; omega)] at hm
          unfold alikeF; rw [hm]; simp⟩
        clear hm hD
        go_wp2
        go_ret
        exact ⟨by rw [HN.out.2]; rfl, HN.out.1⟩
  · have hq : ((a.length : Int) != (b.length : Int)) = true := by rw [bne_iff_ne]; omega
    have hq' : (a.length != b.length) = true := by rw [bne_iff_ne]; exact hne
    have HN := Lib.hid (alike_len hne)
    clear hne
    go_enter Tryz.func37, Tryz.ntmps37
    go_wp2
    go_ret
    exact ⟨by rw [HN.out]; rfl, Drawn.refl _⟩
end Go.Proofs.YtplajlccnnbifaaGreatDoor
/- The landed field's Parse walked. -/
namespace Go.Proofs.YtplajlccnnbifaaGreatDoor
open Go.RowKit
attribute [local go_sem] store_one S_match S_store eguard_BN nguard_BN

set_option maxRecDepth 100000 in
set_option maxHeartbeats 1000000 in
theorem invalue_any (c : UInt8) (w : World) : Calls Tryz.prog 64 #[B c] w fun e w' => e = .returned (.bool (valB c)) ∧ w' = w := by
  have h1 := B_eqlN 5 c 9
  have h2 := B_geq 5 c 32
  have h3 := B_neqN 5 c 127
  have hcs : c.toNat = 9 ∨ (c.toNat ≠ 9 ∧ c.toNat < 32) ∨ (32 ≤ c.toNat ∧ c.toNat = 127) ∨ (32 ≤ c.toNat ∧ c.toNat ≠ 127) := by omega
  rcases hcs with a | a | a | a
  · have hv : valB c = true := by unfold valB badB; simp; omega
    rw [show ((c.toNat : Int) == 9) = true by rw [beq_iff_eq]; omega] at h1
    rw [hv]
    clear h2 h3 a hv
    go_enter Tryz.func64, Tryz.ntmps64
    go_wp2
    go_ret
    exact ⟨rfl, rfl⟩
  · have hv : valB c = false := by unfold valB badB; simp; omega
    rw [show ((c.toNat : Int) == 9) = false by rw [beq_eq_false_iff_ne]; omega] at h1
    rw [decide_eq_false (by omega)] at h2
    rw [hv]
    clear h3 a hv
    go_enter Tryz.func64, Tryz.ntmps64
    go_wp2
    go_ret
    exact ⟨rfl, rfl⟩
  · have hv : valB c = false := by unfold valB badB; simp; omega
    rw [show ((c.toNat : Int) == 9) = false by rw [beq_eq_false_iff_ne]; omega] at h1
    rw [decide_eq_true (by omega)] at h2
    rw [show ((c.toNat : Int) != 127) = false by rw [bne_eq_false_iff_eq]; omega] at h3
    rw [hv]
    clear a hv
    go_enter Tryz.func64, Tryz.ntmps64
    go_wp2
    go_ret
    exact ⟨rfl, rfl⟩
  · have hv : valB c = true := by unfold valB badB; simp; omega
    rw [show ((c.toNat : Int) == 9) = false by rw [beq_eq_false_iff_ne]; omega] at h1
    rw [decide_eq_true (by omega)] at h2
    rw [show ((c.toNat : Int) != 127) = true by rw [bne_iff_ne]; omega] at h3
    rw [hv]
    clear a hv
    go_enter Tryz.func64, Tryz.ntmps64
    go_wp2
    go_ret
    exact ⟨rfl, rfl⟩
theorem all_val (s : List UInt8) (hs : s.length ≤ 100000) (w : World) : Calls Tryz.prog 62 #[S s, .func (.func 64) #[] #[]] w fun e w' => e = .returned (.bool (s.all valB)) ∧ w' = w :=
  all_any invalue_any (enters_of Tryz.func64 (by kernel_rfl) rfl) s hs w
theorem index_S1 (s : List UInt8) (k : UInt8) (w : World) : Calls Tryz.prog 114 #[S s, S [k]] w fun e w' => e = .returned (.int .i64 (Lib.indexByte s k)) ∧ w' = w :=
  Tryz.stringslite_Index_one ⟨s.toArray⟩ k w
set_option maxRecDepth 100000 in
set_option maxHeartbeats 400000 in
theorem cut34_hit (k : UInt8) (a b : List UInt8) (h : k ∉ a) (hs : a.length + b.length ≤ 100000) (w : World) :
    Calls Tryz.prog 93 #[S (a ++ k :: b), S [k]] w fun e w' => e = .returned (.tuple #[S a, S b, .bool true]) ∧ Drawn w w' := by
  have hix := index_S1 (a ++ k :: b) k w
  rw [index_hit b h] at hix
  have hl := run_len_S (P := Tryz.prog) Tryz.underlying9 3 [k]
  have hln : (a ++ k :: b).length = a.length + b.length + 1 := by simp; omega
  have hs1 := slice_take (P := Tryz.prog) Tryz.underlying9 (a ++ k :: b) a.length (by omega)
  have hs2 := slice_drop (P := Tryz.prog) Tryz.underlying9 (a ++ k :: b) (a.length + 1) (by omega)
  rw [List.take_left] at hs1
  rw [show (a ++ k :: b).drop (a.length + 1) = b by rw [List.drop_append]; simp] at hs2
  generalize a ++ k :: b = T at *
  generalize hn : a.length = n at *
  have hn5 : n ≤ 100000 := by omega
  have hs3 : ∀ w, (Instr.slice 9 (S T) (some (.int .i64 ((n : Int) + 1))) none none).run Tryz.prog w = .ok (S b) w := fun w => by
    have := hs2 w
    rwa [show ((n + 1 : Nat) : Int) = (n : Int) + 1 by omega] at this
  have hg : decide ((0 : Int) ≤ (n : Int)) = true := decide_eq_true (by omega)
  have hl1 : ∀ w, (Builtin.len_ #[9] 3 #[S [k]]).run Tryz.prog w = .ok (.int .i64 1) w := hl
  clear hl hln h hn hs hs2
  go_enter Tryz.func93, Tryz.ntmps93
  go_wp2_with fail
  refine hix.mono ?_
  rintro e w1 ⟨rfl, rfl⟩
  go_wp2
  have hmx : Tryz.prog.follows .mixedOrders = true := by kernel_rfl
  go_region_o
  go_wp2
  go_ret3
  exact ⟨rfl, 1, rfl⟩
set_option maxRecDepth 100000 in
set_option maxHeartbeats 400000 in
theorem cut34_miss (k : UInt8) (s : List UInt8) (h : k ∉ s) (w : World) :
    Calls Tryz.prog 93 #[S s, S [k]] w fun e w' => e = .returned (.tuple #[S s, S [], .bool false]) ∧ Drawn w w' := by
  have hix := index_S1 s k w
  rw [index_miss h] at hix
  clear h
  go_enter Tryz.func93, Tryz.ntmps93
  go_wp2_with fail
  refine hix.mono ?_
  rintro e w1 ⟨rfl, rfl⟩
  go_wp2
  go_ret3
  exact ⟨rfl, 0, rfl⟩
/-- strings.Cut at one byte. -/
theorem cut_hit (k : UInt8) (a b : List UInt8) (h : k ∉ a) (hs : a.length + b.length ≤ 100000) (w : World) :
    Calls Tryz.prog 58 #[S (a ++ k :: b), S [k]] w fun e w' => e = .returned (.tuple #[S a, S b, .bool true]) ∧ Drawn w w' := by
  have hc := cut34_hit k a b h hs w
  generalize a ++ k :: b = T at *
  clear h hs
  go_enter Tryz.func58, Tryz.ntmps58
  go_wp2_with fail
  refine hc.mono ?_
  rintro e w1 ⟨rfl, hD⟩
  go_wp2
  go_ret3
  exact ⟨rfl, hD⟩
theorem cut_miss (k : UInt8) (s : List UInt8) (h : k ∉ s) (w : World) :
    Calls Tryz.prog 58 #[S s, S [k]] w fun e w' => e = .returned (.tuple #[S s, S [], .bool false]) ∧ Drawn w w' := by
  have hc := cut34_miss k s h w
  clear h
  go_enter Tryz.func58, Tryz.ntmps58
  go_wp2_with fail
  refine hc.mono ?_
  rintro e w1 ⟨rfl, hD⟩
  go_wp2
  go_ret3
  exact ⟨rfl, hD⟩
theorem trim_any (s : List UInt8) (hs : s.length ≤ 100000) (w : World) : Calls Tryz.prog 65 #[S s, S [9, 32]] w fun e w' => e = .returned (S (bareF s)) ∧ Below w.heap.size w w' := by
  have h := Any.strings_Trim_laid Tryz.lays160 (by kernel_rfl) ⟨s.toArray⟩ ⟨#[9, 32]⟩ w (by show s.length ≤ _; omega) (by decide) (Go.Proofs.ascii_of_all (by decide))
  rw [← trim_bare]
  exact h
/-- A result of a struct of two texts, and one more. -/
theorem struct_end {fn : Func} {p u : Tmp} {i : TypeInfo} (hi : Tryz.prog.info? 47 = some i) (hs : i.size = 2) (h : fn.results = #[.cell p 47, .tmp u]) (tmps : Array Value) (w : World) (g : Nat) (cs : Array Value) (hp : tmps.getD p undef = .pointer (some ⟨g, 0, none⟩)) (hg : Row w g cs 47) (h2 : cs.size = 2) :
    (results fn tmps).run Tryz.prog w = .ok (.tuple #[.agg cs, tmps.getD u undef]) w :=
  results_row_tmp h tmps w g 47 cs (0, 0) _ hp hg Tryz.underlying47 rfl (by rw [hi, Option.map_some, hs, h2])
theorem infoFld : ∃ i, Tryz.prog.info? 47 = some i ∧ i.size = 2 := by
  have h : (Tryz.prog.info? 47).map (·.size) = some 2 := by kernel_rfl
  cases hi : Tryz.prog.info? 47 with
  | none => simp [hi] at h
  | some i => exact ⟨i, rfl, by simpa [hi] using h⟩
set_option maxRecDepth 100000 in
set_option maxHeartbeats 1000000 in
theorem parse10_any (s : List UInt8) (hs : s.length ≤ 100000) (w : World) : Calls Tryz.prog 36 #[S s] w fun e w' => e = .returned (parseV (parseF s)) ∧ Below w.heap.size w w' := by
  obtain ⟨i23, hi23, hs23⟩ := infoFld
  obtain ⟨W1, hW1⟩ : ∃ W1, W1 = w.alloc (.cells #[.string ⟨#[]⟩, .string ⟨#[]⟩] 47) := ⟨_, rfl⟩
  obtain ⟨b, hb⟩ : ∃ b, b = w.heap.size := ⟨_, rfl⟩
  have hr1 : Row W1 b #[.string ⟨#[]⟩, .string ⟨#[]⟩] 47 := by rw [hW1, hb]; exact row_new w _ _
  have hb1 : Below b w W1 := by rw [hW1, hb]; exact (Below.refl _ w).alloc (Nat.le_refl _) _
  have HI := Lib.hid (And.intro hi23 hs23)
  have hend : Hid (∀ (W : World) (n v : List UInt8) (k : Bool) (tmps : Array Value), Row W b #[.string ⟨#[]⟩, .string ⟨#[]⟩] 47 → Below b w W → tmps.getD 2 undef = .pointer (some ⟨b, 0, none⟩) → tmps.getD 3 undef = .bool k → parseF s = (n, v, k) →
      bodyPost Tryz.prog Tryz.f36 (fun e w' => e = .returned (parseV (parseF s)) ∧ Below w.heap.size w w') .ret { tmps := tmps, defers := [] } ((W.setCell ⟨b, 0, none⟩ (S n)).setCell ⟨b, 1, none⟩ (S v))) := Lib.hid fun W n v k tmps hr hB h2 h3 hp => by
    refine bodyPost_ret (struct_end HI.out.1 HI.out.2 rfl _ _ b _ h2 ((hr.set 0 (S n)).set 1 (S v)) rfl) rfl ?_
    rw [hp]
    refine ⟨by rw [h3]; rfl, ?_⟩
    rw [← hb]
    exact (hB.setCell (p := ⟨b, 0, none⟩) (Nat.le_refl _) _).setCell (p := ⟨b, 1, none⟩) (Nat.le_refl _) _
  have H1 := Lib.hid (And.intro hr1 (And.intro hb1 hb))
  clear hr1 hb1 hi23 hs23
  have lit58 : S [58] = .string ⟨#[58]⟩ := rfl
  rcases cut_cases 58 s with ⟨n, r, rfl, hab⟩ | hm
  · have hl : n.length + r.length ≤ 100000 := by rw [List.length_append, List.length_cons] at hs; omega
    have hc := cut_hit 58 n r hab hl W1
    have hP := parse_cut n r hab
    have HT := Lib.hid (token15_any n (by omega))
    have HV := Lib.hid (all_val r (by omega))
    have HM : Hid (∀ w, Calls Tryz.prog 65 #[S r, .string ⟨#[9, 32]⟩] w fun e w' => e = .returned (S (bareF r)) ∧ Below w.heap.size w w') := Lib.hid (trim_any r (by omega))
    rw [lit58] at hc
    generalize n ++ 58 :: r = T at *
    clear hs hab hl lit58
    have HC := Lib.hid hc
    clear hc
    cases ht : tokF n with
    | false =>
      rw [ht, Bool.false_and, if_neg Bool.false_ne_true] at hP
      rw [ht] at HT
      have HP := Lib.hid hP
      clear hP ht HV HM
      go_enter Tryz.func36, Tryz.ntmps36
      go_wp2_with fail
      rw [← hb, ← hW1]
      clear hb hW1
      refine HC.out.mono ?_
      rintro e W2 ⟨rfl, hD⟩
      have HD := Lib.hid hD
      clear hD
      go_wp2_with fail
      refine (HT.out W2).mono ?_
      rintro e w1 ⟨rfl, hw1⟩
      obtain rfl := hw1.symm
      have hr2 := H1.out.1.below HD.out.below H1.out.1.lt
      have r0 : W2.cell? ⟨b, 0, none⟩ = some (.string ⟨#[]⟩) := cell_of_row W2 _ 0 _ 47 (0, 0) hr2
      have r1 : W2.cell? ⟨b, 1, none⟩ = some (.string ⟨#[]⟩) := cell_of_row W2 _ 1 _ 47 (0, 0) hr2
      have f0 : W2.frozen? ⟨b, 0, none⟩ = false := Row.frozen hr2 0
      have f1 : W2.frozen? ⟨b, 1, none⟩ = false := Row.frozen hr2 1
      have HR := Lib.hid hr2
      clear hr2
      go_wp2
      exact hend.out _ [] [] false _ HR.out (H1.out.2.1.trans (HD.out.below.mono (by have := H1.out.1.lt; omega))) rfl rfl HP.out
    | true =>
      rw [ht, Bool.true_and] at hP
      rw [ht] at HT
      cases hv : r.all valB with
      | false =>
        rw [hv, if_neg Bool.false_ne_true] at hP
        rw [hv] at HV
        have HP := Lib.hid hP
        clear hP ht hv HM
        go_enter Tryz.func36, Tryz.ntmps36
        go_wp2_with fail
        rw [← hb, ← hW1]
        clear hb hW1
        refine HC.out.mono ?_
        rintro e W2 ⟨rfl, hD⟩
        have HD := Lib.hid hD
        clear hD
        go_wp2_with fail
        refine (HT.out W2).mono ?_
        rintro e w1 ⟨rfl, hw1⟩
        obtain rfl := hw1.symm
        go_wp2_with fail
        refine (HV.out W2).mono ?_
        rintro e w2 ⟨rfl, hw2⟩
        obtain rfl := hw2.symm
        have hr2 := H1.out.1.below HD.out.below H1.out.1.lt
        have r0 : W2.cell? ⟨b, 0, none⟩ = some (.string ⟨#[]⟩) := cell_of_row W2 _ 0 _ 47 (0, 0) hr2
        have r1 : W2.cell? ⟨b, 1, none⟩ = some (.string ⟨#[]⟩) := cell_of_row W2 _ 1 _ 47 (0, 0) hr2
        have f0 : W2.frozen? ⟨b, 0, none⟩ = false := Row.frozen hr2 0
        have f1 : W2.frozen? ⟨b, 1, none⟩ = false := Row.frozen hr2 1
        have HR := Lib.hid hr2
        clear hr2
        go_wp2
        exact hend.out _ [] [] false _ HR.out (H1.out.2.1.trans (HD.out.below.mono (by have := H1.out.1.lt; omega))) rfl rfl HP.out
      | true =>
        rw [hv, if_pos rfl] at hP
        rw [hv] at HV
        have HP := Lib.hid hP
        clear hP ht hv
        go_enter Tryz.func36, Tryz.ntmps36
        go_wp2_with fail
        rw [← hb, ← hW1]
        clear hb hW1
        refine HC.out.mono ?_
        rintro e W2 ⟨rfl, hD⟩
        have HD := Lib.hid hD
        clear hD
        go_wp2_with fail
        refine (HT.out W2).mono ?_
        rintro e w1 ⟨rfl, hw1⟩
        obtain rfl := hw1.symm
        go_wp2_with fail
        refine (HV.out W2).mono ?_
        rintro e w2 ⟨rfl, hw2⟩
        obtain rfl := hw2.symm
        go_wp2_with fail
        refine (HM.out W2).mono ?_
        rintro e w3 ⟨rfl, hB⟩
        have hr2 := H1.out.1.below HD.out.below H1.out.1.lt
        have hr3 := hr2.below hB hr2.lt
        have HB3 : Hid (Below b w w3) := Lib.hid ((H1.out.2.1.trans (HD.out.below.mono (by have := H1.out.1.lt; omega))).trans (hB.mono (by have := hr2.lt; omega)))
        have r0 : w3.cell? ⟨b, 0, none⟩ = some (.string ⟨#[]⟩) := cell_of_row w3 _ 0 _ 47 (0, 0) hr3
        have r1 : w3.cell? ⟨b, 1, none⟩ = some (.string ⟨#[]⟩) := cell_of_row w3 _ 1 _ 47 (0, 0) hr3
        have f0 : w3.frozen? ⟨b, 0, none⟩ = false := Row.frozen hr3 0
        have f1 : w3.frozen? ⟨b, 1, none⟩ = false := Row.frozen hr3 1
        have HR := Lib.hid hr3
        clear hr2 hr3 hB
        go_wp2
        exact hend.out _ n (bareF r) true _ HR.out HB3.out rfl rfl HP.out
  · have hc := cut_miss 58 s hm W1
    have HP := Lib.hid (parse_miss hm)
    rw [lit58] at hc
    have HC := Lib.hid hc
    clear hc hm lit58
    go_enter Tryz.func36, Tryz.ntmps36
    go_wp2_with fail
    rw [← hb, ← hW1]
    clear hb hW1
    refine HC.out.mono ?_
    rintro e W2 ⟨rfl, hD⟩
    have HD := Lib.hid hD
    have hr2 := H1.out.1.below HD.out.below H1.out.1.lt
    have r0 : W2.cell? ⟨b, 0, none⟩ = some (.string ⟨#[]⟩) := cell_of_row W2 _ 0 _ 47 (0, 0) hr2
    have r1 : W2.cell? ⟨b, 1, none⟩ = some (.string ⟨#[]⟩) := cell_of_row W2 _ 1 _ 47 (0, 0) hr2
    have f0 : W2.frozen? ⟨b, 0, none⟩ = false := Row.frozen hr2 0
    have f1 : W2.frozen? ⟨b, 1, none⟩ = false := Row.frozen hr2 1
    have HR := Lib.hid hr2
    clear hD hr2
    go_wp2
    exact hend.out _ [] [] false _ HR.out (H1.out.2.1.trans (HD.out.below.mono (by have := H1.out.1.lt; omega))) rfl rfl HP.out
end Go.Proofs.YtplajlccnnbifaaGreatDoor
