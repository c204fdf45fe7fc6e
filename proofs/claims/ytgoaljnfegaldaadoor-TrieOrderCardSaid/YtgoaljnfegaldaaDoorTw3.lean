/- Places that are open, as a row in memory; what a walk from node to node knows. (mktw.py writes it.) -/
import Derived.Test.YtgoaljnfegaldaaDoorTw0
import Derived.Test.YtgoaljnfegaldaaDoorTr
namespace Go.Proofs.YtgoaljnfegaldaaDoor
open Go.RowKit

/-- Where the node at these keys begins. -/
def adrV (N : List Key → Option Nat) (k : List Key) : Value := .pointer (some ⟨(N k).getD 0, offK k, none⟩)
theorem adrV_some {N : List Key → Option Nat} {k : List Key} {b : Nat} (h : N k = some b) : adrV N k = .pointer (some ⟨b, offK k, none⟩) := by unfold adrV; rw [h]; rfl
theorem adrV_snoc {N : List Key → Option Nat} {k : List Key} {c : Key} {b : Nat} (h : N (k ++ [c]) = some b) : adrV N (k ++ [c]) = .pointer (some ⟨b, 0, none⟩) := by rw [adrV_some h, offK_snoc]
def plcC (N : List Key → Option Nat) (q : Plc) : List Value := [adrV N q.1, .int .i64 (q.2 : Int)]
/-- The cells of places. -/
def pcells (N : List Key → Option Nat) (st : List Plc) : List Value := st.flatMap (plcC N)
theorem pcells_snoc (N : List Key → Option Nat) (st : List Plc) (q : Plc) : pcells N (st ++ [q]) = pcells N st ++ [adrV N q.1, .int .i64 (q.2 : Int)] := by
  unfold pcells; rw [List.flatMap_append]; simp [plcC]
theorem pcells_len (N : List Key → Option Nat) (st : List Plc) : (pcells N st).length = st.length * 2 := by
  unfold pcells
  induction st with
  | nil => rfl
  | cons q st ih => rw [List.flatMap_cons, List.length_append, ih, List.length_cons]; simp only [plcC, List.length_cons, List.length_nil]; omega
/-- What is left to look at, read off the cells. -/
def costL (m : Nat) : List Value → Nat
  | _ :: .int _ r :: l => costN (m - r.toNat) + costL m l
  | _ => 0
theorem costL_is (N : List Key → Option Nat) (m : Nat) : ∀ st : List Plc, costL m (pcells N st) = stCost m st
  | [] => rfl
  | q :: st => by
    show costN (m - ((q.2 : Int)).toNat) + costL m (pcells N st) = costN (m - q.2) + stCost m st
    rw [costL_is N m st, Int.toNat_natCast]
/-- What a slice has whose cells begin its block, two cells each. -/
def rowOf (v : Value) (w : World) : List Value := match v with
  | .slice (some ⟨g, 0, none⟩) n _ => (match w.heap[g]? with
    | some (.cells cur _ _) => cur.toList.take (n * 2)
    | _ => [])
  | _ => []
theorem rowOf_owns {w : World} {base : Nat} {e : TypeId} {v : Value} {n : Nat} {xs : List Value} (h : w.ownsRow base e 2 v n xs) : rowOf v w = xs := by
  rcases h.2 with ⟨rfl, h0⟩ | ⟨g, cap, cur, rfl, hb, hg, hn, hm, hs, ht⟩
  · have : xs = [] := by
      have := h.1
      rw [h0] at this
      exact List.length_eq_zero_iff.1 (by simpa using this)
    rw [this]; rfl
  · show (match w.heap[g]? with
      | some (.cells cur _ _) => cur.toList.take (n * 2)
      | _ => []) = xs
    rw [hg]; exact ht
/-- The first m of a row of one's own. -/
theorem own_first {w : World} {base : Nat} {e t : TypeId} {k n : Nat} {v : Value} {xs : List Value} (h : w.ownsRow base e k v n xs) (ht : Tryd.prog.underlying t = some (.slice e)) (hz : ∀ w, (sizeOf e).run Tryd.prog w = .ok k w) (m : Nat) (hm : m < n) :
    ∃ g c, v = .slice (some ⟨g, 0, none⟩) n c ∧ base ≤ g ∧ g < w.heap.size ∧ (∀ W, (Instr.slice t v none (some (.int .i64 (m : Int))) none).run Tryd.prog W = .ok (.slice (some ⟨g, 0, none⟩) m c) W) ∧ w.ownsRow base e k (.slice (some ⟨g, 0, none⟩) m c) m (xs.take (m * k)) ∧
      (∀ i, i < n → ∀ W, (Instr.indexAt t v (.int .i64 (i : Int))).run Tryd.prog W = .ok (.pointer (some ⟨g, i * k, none⟩)) W) ∧ ∀ j u, xs[j]? = some u → w.cell? ⟨g, j, none⟩ = some u := by
  rcases h.2 with ⟨rfl, h0⟩ | ⟨g, cap, cur, rfl, hb, hg, hn, hcm, hs, hx⟩
  · omega
  · refine ⟨g, cap, rfl, hb, (Array.getElem?_eq_some_iff.1 hg).1, fun W => ?_, ⟨?_, .inr ⟨g, cap, cur, rfl, hb, hg, by omega, hcm, hs, ?_⟩⟩, fun i hi W => ?_, fun j u hu => ?_⟩
    · have hmc : m ≤ cap := by omega
      simp [Instr.slice, run_underlying ht, Instr.sliceBounds, run_sliceBound, Result.andThen, hz, hmc, Addr.add]
    · rw [List.length_take, h.1]
      have : m * k ≤ n * k := Nat.mul_le_mul_right k (by omega)
      omega
    · rw [← hx, List.take_take]
      have : m * k ≤ n * k := Nat.mul_le_mul_right k (by omega)
      rw [Nat.min_eq_left this]
    · have := run_index_at (P := Tryd.prog) ht hz g 0 n cap i hi W
      rwa [Nat.zero_add] at this
    · rw [cell_of_row w g j cur e (0, 0) hg]
      rw [← hx, List.getElem?_take] at hu
      split at hu
      · simpa using hu
      · cases hu
/-- What places are open within a search: each is a node, none is read too far. -/
structure Opens (N : List Key → Option Nat) (m : Nat) (st : List Plc) : Prop where
  node : ∀ q ∈ st, ∃ b, N q.1 = some b
  read : ∀ q ∈ st, q.2 ≤ m
theorem Opens.app {N : List Key → Option Nat} {m : Nat} {st l : List Plc} (h : Opens N m st) (hl : Opens N m l) : Opens N m (st ++ l) :=
  ⟨fun q hq => (List.mem_append.1 hq).elim (h.node q) (hl.node q), fun q hq => (List.mem_append.1 hq).elim (h.read q) (hl.read q)⟩
theorem opens_nil (N : List Key → Option Nat) (m : Nat) : Opens N m [] := ⟨fun q hq => (by cases hq), fun q hq => (by cases hq)⟩
theorem opens_one {N : List Key → Option Nat} {m : Nat} {q : Plc} {b : Nat} (h : N q.1 = some b) (hr : q.2 ≤ m) : Opens N m [q] :=
  ⟨fun p hp => by rw [List.mem_singleton] at hp; rw [hp]; exact ⟨b, h⟩, fun p hp => by rw [List.mem_singleton] at hp; rw [hp]; exact hr⟩
theorem opens_if {N : List Key → Option Nat} {m : Nat} {q : Plc} {p : Prop} [Decidable p] (h : p → ∃ b, N q.1 = some b) (hr : q.2 ≤ m) : Opens N m (if p then [q] else []) := by
  split
  · rename_i hp
    obtain ⟨b, hb⟩ := h hp
    exact opens_one hb hr
  · exact opens_nil N m
def domN (N : List Key → Option Nat) (k : List Key) : Bool := (N k).isSome
theorem Opens.on {N : List Key → Option Nat} {path : List Txt} {st : List Plc} (h : Opens N path.length st) (q : Plc) (x : Txt) (hq : q.2 < path.length) : Opens N path.length (((st ++ onR (domN N) path q) ++ onP (domN N) q x) ++ onL (domN N) q x) := by
  have h1 : Opens N path.length (onR (domN N) path q) := opens_if (q := (q.1 ++ [.rst], path.length)) (fun h => Option.isSome_iff_exists.1 h) (Nat.le_refl _)
  have h2 : Opens N path.length (onP (domN N) q x) := opens_if (q := (q.1 ++ [.par], q.2 + 1)) (fun h => Option.isSome_iff_exists.1 h.1) hq
  have h3 : Opens N path.length (onL (domN N) q x) := opens_if (q := (q.1 ++ [.lit x], q.2 + 1)) (fun h => Option.isSome_iff_exists.1 h) hq
  exact ((h.app h1).app h2).app h3
/-- The cells of one more place. -/
def cO (o : Option Nat) (r : Nat) : List Value := match o with
  | none => []
  | some b => [.pointer (some ⟨b, 0, none⟩), .int .i64 (r : Int)]
theorem pcells_if (N : List Key → Option Nat) (st : List Plc) (k : List Key) (c : Key) (r : Nat) : pcells N (st ++ (if domN N (k ++ [c]) = true then [(k ++ [c], r)] else [])) = pcells N st ++ cO (N (k ++ [c])) r := by
  unfold domN
  cases h : N (k ++ [c]) with
  | none => rw [if_neg (by simp), List.append_nil]; exact (List.append_nil _).symm
  | some b => rw [if_pos (show (some b).isSome = true from rfl), pcells_snoc, adrV_snoc h]; rfl
theorem pcells_R (N : List Key → Option Nat) (st : List Plc) (path : List Txt) (q : Plc) : pcells N (st ++ onR (domN N) path q) = pcells N st ++ cO (N (q.1 ++ [.rst])) path.length := pcells_if N st q.1 .rst path.length
theorem pcells_P (N : List Key → Option Nat) (st : List Plc) (q : Plc) {x : Txt} (hx : x ≠ []) : pcells N (st ++ onP (domN N) q x) = pcells N st ++ cO (N (q.1 ++ [.par])) (q.2 + 1) := by
  rw [← pcells_if N st q.1 .par (q.2 + 1)]
  unfold onP
  simp only [hx, ne_eq, not_false_eq_true, and_true]
theorem pcells_P0 (N : List Key → Option Nat) (st : List Plc) (q : Plc) : pcells N (st ++ onP (domN N) q []) = pcells N st := by
  unfold onP
  rw [if_neg (fun h => h.2 rfl), List.append_nil]
theorem pcells_L (N : List Key → Option Nat) (st : List Plc) (q : Plc) (x : Txt) : pcells N (st ++ onL (domN N) q x) = pcells N st ++ cO (N (q.1 ++ [.lit x])) (q.2 + 1) := pcells_if N st q.1 (.lit x) (q.2 + 1)
end Go.Proofs.YtgoaljnfegaldaaDoor
