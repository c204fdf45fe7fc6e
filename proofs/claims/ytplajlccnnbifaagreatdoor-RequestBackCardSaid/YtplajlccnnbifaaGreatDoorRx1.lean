/- A request that came in; bytes walked. (mkrx.py writes it.) -/
import Derived.Test.YtplajlccnnbifaaGreatDoorRl
import Derived.Test.YtplajlccnnbifaaGreatDoorJh
import Derived.Deep.QuietTactic
import Derived.BigQuiet
namespace Go.Proofs.YtplajlccnnbifaaGreatDoor
open Go.RowKit
attribute [local go_sem] store_one S_match S_store

/-- A row of fields that came in: it may lie anywhere in its block. -/
structure ArgF (w : World) (a : Option Addr) (c : Nat) (fs : List (List UInt8 × List UInt8)) (b o : Nat) : Prop where
  at0 : fs ≠ [] → a = some ⟨b, o, none⟩
  index : ∀ i, i < fs.length → ∀ w', (Instr.indexAt 25 (.slice a fs.length c) (.int .i64 (i : Int))).run Tryz.prog w' = .ok (.pointer (some ⟨b, o + i * 2, none⟩)) w'
  cell : ∀ i f, fs[i]? = some f → w.cell? ⟨b, o + i * 2, none⟩ = some (S f.1) ∧ w.cell? ⟨b, o + i * 2 + 1, none⟩ = some (S f.2)
theorem ArgF.below {w w' : World} {a : Option Addr} {c : Nat} {fs : List (List UInt8 × List UInt8)} {b o : Nat} (h : ArgF w a c fs b o) (hb : Below w.heap.size w w') : ArgF w' a c fs b o :=
  ⟨h.at0, h.index, fun i f hf => by
    obtain ⟨h1, h2⟩ := h.cell i f hf
    exact ⟨by rw [hb.cell (World.block_lt_of_cell? w _ h1)]; exact h1, by rw [hb.cell (World.block_lt_of_cell? w _ h2)]; exact h2⟩⟩
/-- A request's cells, whatever its version is. -/
def argC (m p q : List UInt8) (vi : Int) (V : Value) (body : List UInt8) (cl : Bool) : Array Value := #[S m, S p, S q, .int .i64 vi, V, S body, .bool cl]
theorem arg_len (a : Option Addr) (n c : Nat) (w : World) : (Builtin.len_ #[25] 3 #[.slice a n c]).run Tryz.prog w = .ok (.int .i64 (n : Int)) w := by
  simp [Builtin.len_, run_underlying Tryz.underlying25, Result.andThen, goInt]
/-- What is asked of the packages line, field, strconv. -/
structure BackI : Prop where
  target : ∀ (s : List UInt8) (w : World), s.length ≤ 100000 → Calls Tryz.prog 34 #[S s] w fun e w' => e = .returned (targetV (targetF s)) ∧ Below w.heap.size w w'
  token : ∀ (s : List UInt8) (w : World), s.length ≤ 100000 → Calls Tryz.prog 35 #[S s] w fun e w' => e = .returned (.bool (tokF s)) ∧ Below w.heap.size w w'
  parse : ∀ (s : List UInt8) (w : World), s.length ≤ 100000 → Calls Tryz.prog 36 #[S s] w fun e w' => e = .returned (parseV (parseF s)) ∧ Below w.heap.size w w'
  alike : ∀ (s t : List UInt8) (w : World), s.length ≤ 100000 → t.length ≤ 100000 → Calls Tryz.prog 37 #[S s, S t] w fun e w' => e = .returned (.bool (alikeF s t)) ∧ Below w.heap.size w w'
/-- And of strconv.Itoa, where its table stands: T is kept by whatever lies above. -/
structure ItoaI (T : World → Prop) : Prop where
  keep : ∀ {w w' : World}, T w → Below w.heap.size w w' → T w'
  itoa : ∀ (n : Nat) (w : World), n ≤ 4096 → T w → Calls Tryz.prog 21 #[.int .i64 (n : Int)] w fun e w' => e = .returned (S (Lib.decDigits n)) ∧ Below w.heap.size w w'
/-- What bytes has put together ahead of field i. -/
def preR (r : Rq) (i : Nat) : List UInt8 := lineR r ++ 13 :: 10 :: fieldL hereF ++ 13 :: 10 :: joinE ((r.fs.take i).map fieldL)
theorem joinE_snoc : ∀ (ls : List (List UInt8)) (l : List UInt8), joinE (ls ++ [l]) = joinE ls ++ (l ++ [13, 10])
  | [], l => by simp [joinE]
  | k :: ls, l => by rw [List.cons_append, joinE, joinE, joinE_snoc ls l]; simp
theorem joinL_last : ∀ (ks : List (List UInt8)) (l z : List UInt8), joinL l (ks ++ [z]) = l ++ 13 :: 10 :: (joinE ks ++ z)
  | [], l, z => rfl
  | k :: ks, l, z => by
    rw [List.cons_append, joinL, joinL_last ks k z, joinE]; simp
theorem pre_next {r : Rq} {i : Nat} {f : List UInt8 × List UInt8} (hf : r.fs[i]? = some f) : preR r (i + 1) = (((preR r i ++ f.1) ++ [58, 32]) ++ f.2) ++ [13, 10] := by
  unfold preR
  rw [List.take_add_one, hf]
  simp only [Option.toList_some, List.map_append, List.map_cons, List.map_nil, joinE_snoc]
  simp [fieldL]
theorem bytes_of (r : Rq) : bytesR r = (((preR r r.fs.length ++ [67, 111, 110, 116, 101, 110, 116, 45, 76, 101, 110, 103, 116, 104, 58, 32]) ++ Lib.decDigits r.body.length) ++ [13, 10, 13, 10]) ++ r.body := by
  unfold bytesR linesR preR
  rw [← List.cons_append, joinL_last, List.take_length]
  simp [fieldL, lenF, joinE]
theorem pre_start (r : Rq) : preR r 0 = ((r.m ++ [32]) ++ r.p ++ (if r.q = [] then [] else [63] ++ r.q)) ++ [32, 72, 84, 84, 80, 47, 49, 46, 49, 13, 10, 72, 111, 115, 116, 58, 32, 104, 101, 114, 101, 13, 10] := by
  unfold preR lineR tgtL
  split
  · simp [fieldL, hereF, http1, joinE]
  · simp [fieldL, hereF, http1, joinE]
theorem fsLen_cons (f : List UInt8 × List UInt8) (fs : List (List UInt8 × List UInt8)) : fsLen (f :: fs) = f.1.length + f.2.length + 4 + fsLen fs := rfl
theorem joinE_len : ∀ fs : List (List UInt8 × List UInt8), (joinE (fs.map fieldL)).length = fsLen fs
  | [] => rfl
  | f :: fs => by
    rw [List.map_cons, joinE, List.length_append, List.length_cons, List.length_cons, joinE_len fs, fsLen_cons]
    simp [fieldL]; omega
theorem fsLen_take : ∀ (fs : List (List UInt8 × List UInt8)) (i : Nat), fsLen (fs.take i) ≤ fsLen fs
  | [], i => by simp
  | f :: fs, 0 => by rw [List.take_zero]; exact Nat.zero_le _
  | f :: fs, i + 1 => by rw [List.take_succ_cons, fsLen_cons, fsLen_cons]; have := fsLen_take fs i; omega
theorem fsLen_get : ∀ (fs : List (List UInt8 × List UInt8)) (i : Nat) (f : List UInt8 × List UInt8), fs[i]? = some f → f.1.length + f.2.length + 4 ≤ fsLen fs
  | g :: fs, 0, f, h => by cases h; rw [fsLen_cons]; omega
  | g :: fs, i + 1, f, h => by
    rw [List.getElem?_cons_succ] at h
    rw [fsLen_cons]; have := fsLen_get fs i f h; omega
theorem pre_len (r : Rq) (i : Nat) (hn : r.m.length + r.p.length + r.q.length + fsLen r.fs ≤ 1900) : (preR r i).length ≤ 1950 := by
  have h1 := joinE_len (r.fs.take i)
  have h2 := fsLen_take r.fs i
  unfold preR lineR tgtL
  simp only [List.length_append, List.length_cons, h1]
  split
  · simp [fieldL, hereF, http1]; omega
  · simp [fieldL, hereF, http1]; omega
theorem fsLen_ge : ∀ fs : List (List UInt8 × List UInt8), 4 * fs.length ≤ fsLen fs
  | [] => Nat.le_refl _
  | f :: fs => by rw [fsLen_cons, List.length_cons]; have := fsLen_ge fs; omega
set_option maxRecDepth 100000 in
set_option maxHeartbeats 4000000 in
theorem bytes_any {T : World → Prop} (O : ItoaI T) (r : Rq) (vi : Int) (a : Option Addr) (c b o : Nat) (cl : Bool) (w : World) (hT : T w) (hn : r.m.length + r.p.length + r.q.length + fsLen r.fs ≤ 1900) (hb : r.body.length ≤ 4096) (hA : ArgF w a c r.fs b o) :
    Calls Tryz.prog 20 #[.agg (argC r.m r.p r.q vi (.slice a r.fs.length c) r.body cl)] w fun e w' => e = .returned (S (bytesR r)) ∧ Below w.heap.size w w' := by
  have hst := pre_start r
  have hpl := fun i => pre_len r i hn
  have hpn := fun i f => pre_next (r := r) (i := i) (f := f)
  have hbo := bytes_of r
  obtain ⟨m, p, q, v, fs, bd, cl0⟩ := r
  dsimp only at hst hn hb hA hbo
  obtain ⟨P0, hP0⟩ : ∃ P0, P0 = preR ⟨m, p, q, v, fs, bd, cl0⟩ := ⟨_, rfl⟩
  rw [← hP0] at hst hpl hpn hbo
  unfold argC
  dsimp only
  obtain ⟨N, hN⟩ : ∃ N, N = fs.length := ⟨_, rfl⟩
  obtain ⟨W1, hW1⟩ : ∃ W1, W1 = w.alloc (.cells (argC m p q vi (.slice a fs.length c) bd cl) 27) := ⟨_, rfl⟩
  have hr1 : Row W1 w.heap.size (argC m p q vi (.slice a fs.length c) bd cl) 27 := by rw [hW1]; exact row_new _ _ _
  have hB1 : Below w.heap.size w W1 := by rw [hW1]; exact (Below.refl _ w).alloc (Nat.le_refl _) _
  obtain ⟨b1, hb1⟩ : ∃ b, b = w.heap.size := ⟨_, rfl⟩
  rw [← hb1] at hr1
  have a1 : binOp .add 9 (S m) (.string ⟨#[32]⟩) = pure (S (m ++ [32])) := S_add 9 m [32] (by simp; omega)
  obtain ⟨X1, hX1⟩ : ∃ X, X = m ++ [32] := ⟨_, rfl⟩
  rw [← hX1] at a1
  have a2 : binOp .add 9 (S X1) (S p) = pure (S (X1 ++ p)) := S_add 9 X1 p (by rw [hX1, List.length_append]; simp; omega)
  obtain ⟨X2, hX2⟩ : ∃ X, X = X1 ++ p := ⟨_, rfl⟩
  rw [← hX2] at a2
  have qn : binOp .neq 9 (S q) (.string ⟨#[]⟩) = pure (.bool (q != [])) := neql_S 9 q []
  have qg : ∀ x y, eqGuard .neq 9 x y (S q) (.string ⟨#[]⟩) = pure () := fun x y => nguard_S 9 x y q []
  obtain ⟨X4, hX4⟩ : ∃ X, X = X2 ++ (if q = [] then [] else [63] ++ q) := ⟨_, rfl⟩
  have hs4 : P0 0 = X4 ++ [32, 72, 84, 84, 80, 47, 49, 46, 49, 13, 10, 72, 111, 115, 116, 58, 32, 104, 101, 114, 101, 13, 10] := by rw [hst, hX4, hX2, hX1]
  have hl4 : X4.length ≤ 1950 := by have := hpl 0; rw [hs4, List.length_append] at this; omega
  have a5 : binOp .add 9 (S X4) (.string ⟨#[32, 72, 84, 84, 80, 47, 49, 46, 49, 13, 10, 72, 111, 115, 116, 58, 32, 104, 101, 114, 101, 13, 10]⟩) = pure (S (P0 0)) := by rw [hs4]; exact S_add 9 X4 [32, 72, 84, 84, 80, 47, 49, 46, 49, 13, 10, 72, 111, 115, 116, 58, 32, 104, 101, 114, 101, 13, 10] (by simp; omega)
  have HH := Lib.hid (And.intro hN (And.intro hA (And.intro hr1 (And.intro hB1 (And.intro hpl (And.intro hpn (And.intro hbo (And.intro hb (And.intro hn hT)))))))))
  have HFL := Lib.hid (fsLen_get fs)
  have HWX : Hid (w.alloc (.cells #[S m, S p, S q, .int .i64 vi, .slice a N c, S bd, .bool cl] 27) = W1 ∧ b1 = w.heap.size) := Lib.hid ⟨by rw [hW1, hN]; rfl, hb1⟩
  have HN19 : Hid (N ≤ 500) := Lib.hid (by have h := fsLen_ge fs; rw [hN]; omega)
  have c4 : W1.cell? ⟨b1, 4, none⟩ = some (.slice a N c) := by rw [hN]; exact cell_of_row W1 _ 4 _ _ (0, 0) hr1
  have c2 : W1.cell? ⟨b1, 2, none⟩ = some (S q) := cell_of_row W1 _ 2 _ _ (0, 0) hr1
  have c1 : W1.cell? ⟨b1, 1, none⟩ = some (S p) := cell_of_row W1 _ 1 _ _ (0, 0) hr1
  have c0 : W1.cell? ⟨b1, 0, none⟩ = some (S m) := cell_of_row W1 _ 0 _ _ (0, 0) hr1
  have hlV := arg_len a N c
  by_cases hq : q = []
  · rw [show (q != []) = false by rw [hq]; rfl] at qn
    rw [if_pos hq, List.append_nil] at hX4
    subst hX4
    have HW := Lib.hid (And.intro hW1 (And.intro hb1 hN))
    clear hX1 hX2 hs4 hst hpl hpn hbo hn hb hA hP0 hT hl4 hr1 hB1 hW1 hb1 hq hN
    go_enter Tryz.func20, Tryz.ntmps20
    go_wp2_with fail
    all_goals try rw [show fs.length = N from HW.out.2.2.symm]
    all_goals try rw [HWX.out.1]
    all_goals try rw [← HWX.out.2]
    go_loopw [3, 4] (fun tv iv wr => ∃ i : Nat, i ≤ N ∧ tv = S (P0 i) ∧ iv = .int .i64 (i : Int) ∧ Drawn W1 wr) (fun _ iv _ => N - (intOf iv).toNat)
    case atStart => exact ⟨0, Nat.zero_le _, rfl, rfl, Drawn.refl _⟩
    case round =>
      obtain ⟨i, hi, rfl, rfl, hD⟩ := hrel
      have d4 : wr.cell? ⟨b1, 4, none⟩ = some (.slice a N c) := by rw [hD.cell]; exact c4
      by_cases hlt : i < N
      · have g1 : decide ((i : Int) < (N : Int)) = true := decide_eq_true (by omega)
        obtain ⟨⟨n, u⟩, hf⟩ : ∃ f, fs[i]? = some f := ⟨fs[i]'(by have := HH.out.1; omega), List.getElem?_eq_getElem _⟩
        have hix : ∀ w', (Instr.indexAt 25 (.slice a N c) (.int .i64 (i : Int))).run Tryz.prog w' = .ok (.pointer (some ⟨b, o + i * 2, none⟩)) w' := by
          have := HH.out.2.1.index i (by have := HH.out.1; omega)
          rw [← HH.out.1] at this
          exact this
        have hcl := (HH.out.2.1.below HH.out.2.2.2.1).cell i _ hf
        have e0 : wr.cell? ⟨b, o + i * 2, none⟩ = some (S n) := by rw [hD.cell]; exact hcl.1
        have e1 : wr.cell? ⟨b, o + i * 2 + 1, none⟩ = some (S u) := by rw [hD.cell]; exact hcl.2
        have hnx := HH.out.2.2.2.2.2.1 i _ hf
        dsimp only at hnx
        have hl0 := HH.out.2.2.2.2.1 i
        have hl1 := HH.out.2.2.2.2.1 (i + 1)
        rw [hnx] at hl1
        simp only [List.length_append] at hl1
        have y1 : binOp .add 9 (S (P0 i)) (S n) = pure (S (P0 i ++ n)) := S_add 9 (P0 i) n (by omega)
        obtain ⟨Y1, hY1⟩ : ∃ X, X = P0 i ++ n := ⟨_, rfl⟩
        rw [← hY1] at y1 hnx
        have y2 : binOp .add 9 (S Y1) (.string ⟨#[58, 32]⟩) = pure (S (Y1 ++ [58, 32])) := S_add 9 Y1 [58, 32] (by rw [hY1, List.length_append]; simp; omega)
        obtain ⟨Y2, hY2⟩ : ∃ X, X = Y1 ++ [58, 32] := ⟨_, rfl⟩
        rw [← hY2] at y2 hnx
        have y3 : binOp .add 9 (S Y2) (S u) = pure (S (Y2 ++ u)) := S_add 9 Y2 u (by rw [hY2, hY1, List.length_append, List.length_append]; simp; omega)
        obtain ⟨Y3, hY3⟩ : ∃ X, X = Y2 ++ u := ⟨_, rfl⟩
        rw [← hY3] at y3 hnx
        have y4 : binOp .add 9 (S Y3) (.string ⟨#[13, 10]⟩) = pure (S (P0 (i + 1))) := by rw [hnx]; exact S_add 9 Y3 [13, 10] (by rw [hY3, hY2, hY1, List.length_append, List.length_append, List.length_append]; simp; omega)
        have hwi : IntKind.i64.wrap ((i : Int) + 1) = (i : Int) + 1 := by
          have h1 := HFL.out i _ hf
          have h2 := HH.out.2.2.2.2.2.2.2.2.1
          have h3 := HN19.out
          rw [IntKind.wrap_i64]; omega
        have HDr := Lib.hid hD
        clear hnx hl0 hl1 hY1 hY2 hY3 hcl hf hD
        go_wp2
        go_quiet (fail)
        go_wp2
        exact ⟨⟨i + 1, by omega, rfl, by go_num, HDr.out.trans ⟨_, rfl⟩⟩, by simp [intOf]; omega⟩
      · obtain rfl : i = N := by omega
        have g1 : decide ((i : Int) < (i : Int)) = false := decide_eq_false (by omega)
        have hlB := run_len_S (P := Tryz.prog) Tryz.underlying9 3 bd
        have hbo := HH.out.2.2.2.2.2.2.1
        have hbl := HH.out.2.2.2.2.2.2.2.1
        rw [← HH.out.1] at hbo
        have hl0 := HH.out.2.2.2.2.1 i
        have z1 : binOp .add 9 (S (P0 i)) (.string ⟨#[67, 111, 110, 116, 101, 110, 116, 45, 76, 101, 110, 103, 116, 104, 58, 32]⟩) = pure (S (P0 i ++ [67, 111, 110, 116, 101, 110, 116, 45, 76, 101, 110, 103, 116, 104, 58, 32])) := S_add 9 (P0 i) [67, 111, 110, 116, 101, 110, 116, 45, 76, 101, 110, 103, 116, 104, 58, 32] (by simp; omega)
        obtain ⟨Z1, hZ1⟩ : ∃ X, X = P0 i ++ [67, 111, 110, 116, 101, 110, 116, 45, 76, 101, 110, 103, 116, 104, 58, 32] := ⟨_, rfl⟩
        rw [← hZ1] at z1 hbo
        obtain ⟨D, hDd⟩ : ∃ D, D = Lib.decDigits bd.length := ⟨_, rfl⟩
        have hdl : D.length ≤ 4 := by
          have := dec_len 4 bd.length (by omega)
          rw [← hDd] at this; omega
        rw [← hDd] at hbo
        have z2 : binOp .add 9 (S Z1) (S D) = pure (S (Z1 ++ D)) := S_add 9 Z1 D (by rw [hZ1, List.length_append]; simp; omega)
        obtain ⟨Z2, hZ2⟩ : ∃ X, X = Z1 ++ D := ⟨_, rfl⟩
        rw [← hZ2] at z2 hbo
        have z3 : binOp .add 9 (S Z2) (.string ⟨#[13, 10, 13, 10]⟩) = pure (S (Z2 ++ [13, 10, 13, 10])) := S_add 9 Z2 [13, 10, 13, 10] (by rw [hZ2, hZ1, List.length_append, List.length_append]; simp; omega)
        obtain ⟨Z3, hZ3⟩ : ∃ X, X = Z2 ++ [13, 10, 13, 10] := ⟨_, rfl⟩
        rw [← hZ3] at z3 hbo
        have z4 : binOp .add 9 (S Z3) (S bd) = pure (S (Z3 ++ bd)) := S_add 9 Z3 bd (by rw [hZ3, hZ2, hZ1, List.length_append, List.length_append, List.length_append]; simp; omega)
        obtain ⟨Z4, hZ4⟩ : ∃ X, X = Z3 ++ bd := ⟨_, rfl⟩
        rw [← hZ4] at z4 hbo
        have HBO := Lib.hid hbo
        have d5 : wr.cell? ⟨b1, 5, none⟩ = some (S bd) := by rw [hD.cell]; exact cell_of_row W1 _ 5 _ _ (0, 0) HH.out.2.2.1
        obtain ⟨K, hK⟩ : ∃ K, K = bd.length := ⟨_, rfl⟩
        rw [← hK] at hlB hDd
        have HIT : Hid (∀ W, Below w.heap.size w W → Calls Tryz.prog 21 #[.int .i64 (K : Int)] W fun e w' => e = .returned (S D) ∧ Below W.heap.size W w') := Lib.hid fun W hB => by
          rw [hDd]
          exact O.itoa K W (by omega) (O.keep HH.out.2.2.2.2.2.2.2.2.2 hB)
        have HDr : Hid (Below w.heap.size w wr) := Lib.hid (HH.out.2.2.2.1.trans (hD.below.mono HH.out.2.2.2.1.size))
        clear hZ1 hZ2 hZ3 hZ4 hbo hbl hl0 hdl hDd hK hD c4 c0 c1 c2
        go_wp2
        obtain ⟨Wq, hWq⟩ : ∃ Wq, Wq = wr.drew := ⟨_, rfl⟩
        have hq5 : Wq.cell? ⟨b1, 5, none⟩ = some (S bd) := by rw [hWq]; exact d5
        have HSQ := Lib.hid hq5
        have HBq : Hid (Below w.heap.size w Wq) := Lib.hid (by rw [hWq]; exact HDr.out.trans ⟨rfl, rfl, rfl, Nat.le_refl _, fun _ _ => rfl⟩)
        refine wp_region_noPanic ?_
        refine wp_region_held_drew (S := fun wx => wx.cell? ⟨b1, 5, none⟩ = some (S bd)) (by kernel_rfl) (by rw [hWq] at hq5; exact hq5) (fun _ => ?_)
        rw [← hWq]
        clear hWq hq5 d4 d5
        refine take_at (i := 0) (d := some 45) (v := S (P0 i)) rfl (by kernel_rfl) (by kernel_rfl) (by kernel_rfl) (fun _ _ _ h => h) (fun oi ho => ?_) HSQ.out ?_
        · obtain rfl := Option.some.inj ho
          exact Or.inl ⟨by rfl, fun wx hSw => by go_simp⟩
        simp only [Act.put, List.setIfInBounds_toArray, List.set_cons_zero, List.set_cons_succ]
        refine take_at (i := 1) (d := some 46) (v := S Z1) rfl (by kernel_rfl) (by kernel_rfl) (by kernel_rfl) (fun _ _ _ h => h) (fun oi ho => ?_) HSQ.out ?_
        · obtain rfl := Option.some.inj ho
          exact Or.inl ⟨by rfl, fun wx hSw => by go_simp⟩
        simp only [Act.put, List.setIfInBounds_toArray, List.set_cons_zero, List.set_cons_succ]
        refine take_at (i := 2) (d := some 47) (v := .pointer (some ⟨b1, 5, none⟩)) rfl (by kernel_rfl) (by kernel_rfl) (by kernel_rfl) (fun _ _ _ h => h) (fun oi ho => ?_) HSQ.out ?_
        · obtain rfl := Option.some.inj ho
          exact Or.inl ⟨by rfl, fun wx hSw => by go_simp⟩
        simp only [Act.put, List.setIfInBounds_toArray, List.set_cons_zero, List.set_cons_succ]
        refine take_at (i := 3) (d := some 48) (v := S bd) rfl (by kernel_rfl) (by kernel_rfl) (by kernel_rfl) (fun _ _ _ h => h) (fun oi ho => ?_) HSQ.out ?_
        · obtain rfl := Option.some.inj ho
          exact Or.inl ⟨by rfl, fun wx hSw => by go_simp⟩
        simp only [Act.put, List.setIfInBounds_toArray, List.set_cons_zero, List.set_cons_succ]
        refine take_at (i := 4) (d := some 49) (v := .int .i64 (K : Int)) rfl (by kernel_rfl) (by kernel_rfl) (by kernel_rfl) (fun _ _ _ h => h) (fun oi ho => ?_) HSQ.out ?_
        · obtain rfl := Option.some.inj ho
          exact Or.inl ⟨by rfl, fun wx hSw => by go_simp⟩
        simp only [Act.put, List.setIfInBounds_toArray, List.set_cons_zero, List.set_cons_succ]
        refine take_at (i := 8) (d := some 53) (v := .pointer (some ⟨b1, 5, none⟩)) rfl (by kernel_rfl) (by kernel_rfl) (by kernel_rfl) (fun _ _ _ h => h) (fun oi ho => ?_) HSQ.out ?_
        · obtain rfl := Option.some.inj ho
          exact Or.inl ⟨by rfl, fun wx hSw => by go_simp⟩
        simp only [Act.put, List.setIfInBounds_toArray, List.set_cons_zero, List.set_cons_succ]
        refine take_at (i := 9) (d := some 54) (v := S bd) rfl (by kernel_rfl) (by kernel_rfl) (by kernel_rfl) (fun _ _ _ h => h) (fun oi ho => ?_) HSQ.out ?_
        · obtain rfl := Option.some.inj ho
          exact Or.inl ⟨by rfl, fun wx hSw => by go_simp⟩
        simp only [Act.put, List.setIfInBounds_toArray, List.set_cons_zero, List.set_cons_succ]
        refine ready_call (i := 5) (d := some 50) (f := 21) (args := #[.int .i64 (K : Int)]) rfl (by kernel_rfl) (fun oi ho => ?_) ?_
        · obtain rfl := Option.some.inj ho
          exact ⟨by rfl, by go_simp⟩
        refine (HIT.out Wq HBq.out).mono ?_
        rintro e W5 ⟨rfl, hB⟩
        have hS5 : W5.cell? ⟨b1, 5, none⟩ = some (S bd) := by rw [hB.cell (World.block_lt_of_cell? Wq _ HSQ.out)]; exact HSQ.out
        have HB5 := Lib.hid (HBq.out.trans (hB.mono HBq.out.size))
        clear HSQ hB
        have HSQ := Lib.hid hS5
        clear hS5
        refine ⟨_, rfl, HSQ.out, ?_⟩
        simp only [Act.put, List.setIfInBounds_toArray, List.set_cons_zero, List.set_cons_succ]
        refine take_at (i := 6) (d := some 51) (v := S Z2) rfl (by kernel_rfl) (by kernel_rfl) (by kernel_rfl) (fun _ _ _ h => h) (fun oi ho => ?_) HSQ.out ?_
        · obtain rfl := Option.some.inj ho
          exact Or.inl ⟨by rfl, fun wx hSw => by go_simp⟩
        simp only [Act.put, List.setIfInBounds_toArray, List.set_cons_zero, List.set_cons_succ]
        refine take_at (i := 7) (d := some 52) (v := S Z3) rfl (by kernel_rfl) (by kernel_rfl) (by kernel_rfl) (fun _ _ _ h => h) (fun oi ho => ?_) HSQ.out ?_
        · obtain rfl := Option.some.inj ho
          exact Or.inl ⟨by rfl, fun wx hSw => by go_simp⟩
        simp only [Act.put, List.setIfInBounds_toArray, List.set_cons_zero, List.set_cons_succ]
        refine take_at (i := 10) (d := some 55) (v := S Z4) rfl (by kernel_rfl) (by kernel_rfl) (by kernel_rfl) (fun _ _ _ h => h) (fun oi ho => ?_) HSQ.out ?_
        · obtain rfl := Option.some.inj ho
          exact Or.inl ⟨by rfl, fun wx hSw => by go_simp⟩
        simp only [Act.put, List.setIfInBounds_toArray, List.set_cons_zero, List.set_cons_succ]
        refine take_at (i := 11) (d := some 2) (v := S Z4) rfl (by kernel_rfl) (by kernel_rfl) (by kernel_rfl) (fun _ _ _ h => h) (fun oi ho => ?_) HSQ.out ?_
        · obtain rfl := Option.some.inj ho
          exact Or.inl ⟨by rfl, fun wx hSw => by go_simp⟩
        simp only [Act.put, List.setIfInBounds_toArray, List.set_cons_zero, List.set_cons_succ]
        refine wpAnyH_done (by kernel_rfl) ?_ _
        refine NoPanic.normal ?_
        go_wp2
        go_ret
        exact ⟨by rw [HBO.out]; rfl, HB5.out⟩
  · rw [show (q != []) = true by rw [bne_iff_ne]; exact hq] at qn
    rw [if_neg hq] at hX4
    have hl2 : X2.length + q.length ≤ 1950 := by rw [hX4, List.length_append, List.length_append] at hl4; simp at hl4; omega
    have a3 : binOp .add 9 (S X2) (.string ⟨#[63]⟩) = pure (S (X2 ++ [63])) := S_add 9 X2 [63] (by simp; omega)
    obtain ⟨X3, hX3⟩ : ∃ X, X = X2 ++ [63] := ⟨_, rfl⟩
    rw [← hX3] at a3
    have a4 : binOp .add 9 (S X3) (S q) = pure (S X4) := by rw [hX4, ← List.append_assoc, ← hX3]; exact S_add 9 X3 q (by rw [hX3, List.length_append]; simp; omega)
    have HW := Lib.hid (And.intro hW1 (And.intro hb1 hN))
    clear hX1 hX2 hX3 hX4 hs4 hst hpl hpn hbo hn hb hA hP0 hT hl4 hl2 hr1 hB1 hW1 hb1 hq hN
    go_enter Tryz.func20, Tryz.ntmps20
    go_wp2_with fail
    all_goals try rw [show fs.length = N from HW.out.2.2.symm]
    all_goals try rw [HWX.out.1]
    all_goals try rw [← HWX.out.2]
    go_loopw [3, 4] (fun tv iv wr => ∃ i : Nat, i ≤ N ∧ tv = S (P0 i) ∧ iv = .int .i64 (i : Int) ∧ Drawn W1 wr) (fun _ iv _ => N - (intOf iv).toNat)
    case atStart => exact ⟨0, Nat.zero_le _, rfl, rfl, Drawn.refl _⟩
    case round =>
      obtain ⟨i, hi, rfl, rfl, hD⟩ := hrel
      have d4 : wr.cell? ⟨b1, 4, none⟩ = some (.slice a N c) := by rw [hD.cell]; exact c4
      by_cases hlt : i < N
      · have g1 : decide ((i : Int) < (N : Int)) = true := decide_eq_true (by omega)
        obtain ⟨⟨n, u⟩, hf⟩ : ∃ f, fs[i]? = some f := ⟨fs[i]'(by have := HH.out.1; omega), List.getElem?_eq_getElem _⟩
        have hix : ∀ w', (Instr.indexAt 25 (.slice a N c) (.int .i64 (i : Int))).run Tryz.prog w' = .ok (.pointer (some ⟨b, o + i * 2, none⟩)) w' := by
          have := HH.out.2.1.index i (by have := HH.out.1; omega)
          rw [← HH.out.1] at this
          exact this
        have hcl := (HH.out.2.1.below HH.out.2.2.2.1).cell i _ hf
        have e0 : wr.cell? ⟨b, o + i * 2, none⟩ = some (S n) := by rw [hD.cell]; exact hcl.1
        have e1 : wr.cell? ⟨b, o + i * 2 + 1, none⟩ = some (S u) := by rw [hD.cell]; exact hcl.2
        have hnx := HH.out.2.2.2.2.2.1 i _ hf
        dsimp only at hnx
        have hl0 := HH.out.2.2.2.2.1 i
        have hl1 := HH.out.2.2.2.2.1 (i + 1)
        rw [hnx] at hl1
        simp only [List.length_append] at hl1
        have y1 : binOp .add 9 (S (P0 i)) (S n) = pure (S (P0 i ++ n)) := S_add 9 (P0 i) n (by omega)
        obtain ⟨Y1, hY1⟩ : ∃ X, X = P0 i ++ n := ⟨_, rfl⟩
        rw [← hY1] at y1 hnx
        have y2 : binOp .add 9 (S Y1) (.string ⟨#[58, 32]⟩) = pure (S (Y1 ++ [58, 32])) := S_add 9 Y1 [58, 32] (by rw [hY1, List.length_append]; simp; omega)
        obtain ⟨Y2, hY2⟩ : ∃ X, X = Y1 ++ [58, 32] := ⟨_, rfl⟩
        rw [← hY2] at y2 hnx
        have y3 : binOp .add 9 (S Y2) (S u) = pure (S (Y2 ++ u)) := S_add 9 Y2 u (by rw [hY2, hY1, List.length_append, List.length_append]; simp; omega)
        obtain ⟨Y3, hY3⟩ : ∃ X, X = Y2 ++ u := ⟨_, rfl⟩
        rw [← hY3] at y3 hnx
        have y4 : binOp .add 9 (S Y3) (.string ⟨#[13, 10]⟩) = pure (S (P0 (i + 1))) := by rw [hnx]; exact S_add 9 Y3 [13, 10] (by rw [hY3, hY2, hY1, List.length_append, List.length_append, List.length_append]; simp; omega)
        have hwi : IntKind.i64.wrap ((i : Int) + 1) = (i : Int) + 1 := by
          have h1 := HFL.out i _ hf
          have h2 := HH.out.2.2.2.2.2.2.2.2.1
          have h3 := HN19.out
          rw [IntKind.wrap_i64]; omega
        have HDr := Lib.hid hD
        clear hnx hl0 hl1 hY1 hY2 hY3 hcl hf hD
        go_wp2
        go_quiet (fail)
        go_wp2
        exact ⟨⟨i + 1, by omega, rfl, by go_num, HDr.out.trans ⟨_, rfl⟩⟩, by simp [intOf]; omega⟩
      · obtain rfl : i = N := by omega
        have g1 : decide ((i : Int) < (i : Int)) = false := decide_eq_false (by omega)
        have hlB := run_len_S (P := Tryz.prog) Tryz.underlying9 3 bd
        have hbo := HH.out.2.2.2.2.2.2.1
        have hbl := HH.out.2.2.2.2.2.2.2.1
        rw [← HH.out.1] at hbo
        have hl0 := HH.out.2.2.2.2.1 i
        have z1 : binOp .add 9 (S (P0 i)) (.string ⟨#[67, 111, 110, 116, 101, 110, 116, 45, 76, 101, 110, 103, 116, 104, 58, 32]⟩) = pure (S (P0 i ++ [67, 111, 110, 116, 101, 110, 116, 45, 76, 101, 110, 103, 116, 104, 58, 32])) := S_add 9 (P0 i) [67, 111, 110, 116, 101, 110, 116, 45, 76, 101, 110, 103, 116, 104, 58, 32] (by simp; omega)
        obtain ⟨Z1, hZ1⟩ : ∃ X, X = P0 i ++ [67, 111, 110, 116, 101, 110, 116, 45, 76, 101, 110, 103, 116, 104, 58, 32] := ⟨_, rfl⟩
        rw [← hZ1] at z1 hbo
        obtain ⟨D, hDd⟩ : ∃ D, D = Lib.decDigits bd.length := ⟨_, rfl⟩
        have hdl : D.length ≤ 4 := by
          have := dec_len 4 bd.length (by omega)
          rw [← hDd] at this; omega
        rw [← hDd] at hbo
        have z2 : binOp .add 9 (S Z1) (S D) = pure (S (Z1 ++ D)) := S_add 9 Z1 D (by rw [hZ1, List.length_append]; simp; omega)
        obtain ⟨Z2, hZ2⟩ : ∃ X, X = Z1 ++ D := ⟨_, rfl⟩
        rw [← hZ2] at z2 hbo
        have z3 : binOp .add 9 (S Z2) (.string ⟨#[13, 10, 13, 10]⟩) = pure (S (Z2 ++ [13, 10, 13, 10])) := S_add 9 Z2 [13, 10, 13, 10] (by rw [hZ2, hZ1, List.length_append, List.length_append]; simp; omega)
        obtain ⟨Z3, hZ3⟩ : ∃ X, X = Z2 ++ [13, 10, 13, 10] := ⟨_, rfl⟩
        rw [← hZ3] at z3 hbo
        have z4 : binOp .add 9 (S Z3) (S bd) = pure (S (Z3 ++ bd)) := S_add 9 Z3 bd (by rw [hZ3, hZ2, hZ1, List.length_append, List.length_append, List.length_append]; simp; omega)
        obtain ⟨Z4, hZ4⟩ : ∃ X, X = Z3 ++ bd := ⟨_, rfl⟩
        rw [← hZ4] at z4 hbo
        have HBO := Lib.hid hbo
        have d5 : wr.cell? ⟨b1, 5, none⟩ = some (S bd) := by rw [hD.cell]; exact cell_of_row W1 _ 5 _ _ (0, 0) HH.out.2.2.1
        obtain ⟨K, hK⟩ : ∃ K, K = bd.length := ⟨_, rfl⟩
        rw [← hK] at hlB hDd
        have HIT : Hid (∀ W, Below w.heap.size w W → Calls Tryz.prog 21 #[.int .i64 (K : Int)] W fun e w' => e = .returned (S D) ∧ Below W.heap.size W w') := Lib.hid fun W hB => by
          rw [hDd]
          exact O.itoa K W (by omega) (O.keep HH.out.2.2.2.2.2.2.2.2.2 hB)
        have HDr : Hid (Below w.heap.size w wr) := Lib.hid (HH.out.2.2.2.1.trans (hD.below.mono HH.out.2.2.2.1.size))
        clear hZ1 hZ2 hZ3 hZ4 hbo hbl hl0 hdl hDd hK hD c4 c0 c1 c2
        go_wp2
        obtain ⟨Wq, hWq⟩ : ∃ Wq, Wq = wr.drew := ⟨_, rfl⟩
        have hq5 : Wq.cell? ⟨b1, 5, none⟩ = some (S bd) := by rw [hWq]; exact d5
        have HSQ := Lib.hid hq5
        have HBq : Hid (Below w.heap.size w Wq) := Lib.hid (by rw [hWq]; exact HDr.out.trans ⟨rfl, rfl, rfl, Nat.le_refl _, fun _ _ => rfl⟩)
        refine wp_region_noPanic ?_
        refine wp_region_held_drew (S := fun wx => wx.cell? ⟨b1, 5, none⟩ = some (S bd)) (by kernel_rfl) (by rw [hWq] at hq5; exact hq5) (fun _ => ?_)
        rw [← hWq]
        clear hWq hq5 d4 d5
        refine take_at (i := 0) (d := some 45) (v := S (P0 i)) rfl (by kernel_rfl) (by kernel_rfl) (by kernel_rfl) (fun _ _ _ h => h) (fun oi ho => ?_) HSQ.out ?_
        · obtain rfl := Option.some.inj ho
          exact Or.inl ⟨by rfl, fun wx hSw => by go_simp⟩
        simp only [Act.put, List.setIfInBounds_toArray, List.set_cons_zero, List.set_cons_succ]
        refine take_at (i := 1) (d := some 46) (v := S Z1) rfl (by kernel_rfl) (by kernel_rfl) (by kernel_rfl) (fun _ _ _ h => h) (fun oi ho => ?_) HSQ.out ?_
        · obtain rfl := Option.some.inj ho
          exact Or.inl ⟨by rfl, fun wx hSw => by go_simp⟩
        simp only [Act.put, List.setIfInBounds_toArray, List.set_cons_zero, List.set_cons_succ]
        refine take_at (i := 2) (d := some 47) (v := .pointer (some ⟨b1, 5, none⟩)) rfl (by kernel_rfl) (by kernel_rfl) (by kernel_rfl) (fun _ _ _ h => h) (fun oi ho => ?_) HSQ.out ?_
        · obtain rfl := Option.some.inj ho
          exact Or.inl ⟨by rfl, fun wx hSw => by go_simp⟩
        simp only [Act.put, List.setIfInBounds_toArray, List.set_cons_zero, List.set_cons_succ]
        refine take_at (i := 3) (d := some 48) (v := S bd) rfl (by kernel_rfl) (by kernel_rfl) (by kernel_rfl) (fun _ _ _ h => h) (fun oi ho => ?_) HSQ.out ?_
        · obtain rfl := Option.some.inj ho
          exact Or.inl ⟨by rfl, fun wx hSw => by go_simp⟩
        simp only [Act.put, List.setIfInBounds_toArray, List.set_cons_zero, List.set_cons_succ]
        refine take_at (i := 4) (d := some 49) (v := .int .i64 (K : Int)) rfl (by kernel_rfl) (by kernel_rfl) (by kernel_rfl) (fun _ _ _ h => h) (fun oi ho => ?_) HSQ.out ?_
        · obtain rfl := Option.some.inj ho
          exact Or.inl ⟨by rfl, fun wx hSw => by go_simp⟩
        simp only [Act.put, List.setIfInBounds_toArray, List.set_cons_zero, List.set_cons_succ]
        refine take_at (i := 8) (d := some 53) (v := .pointer (some ⟨b1, 5, none⟩)) rfl (by kernel_rfl) (by kernel_rfl) (by kernel_rfl) (fun _ _ _ h => h) (fun oi ho => ?_) HSQ.out ?_
        · obtain rfl := Option.some.inj ho
          exact Or.inl ⟨by rfl, fun wx hSw => by go_simp⟩
        simp only [Act.put, List.setIfInBounds_toArray, List.set_cons_zero, List.set_cons_succ]
        refine take_at (i := 9) (d := some 54) (v := S bd) rfl (by kernel_rfl) (by kernel_rfl) (by kernel_rfl) (fun _ _ _ h => h) (fun oi ho => ?_) HSQ.out ?_
        · obtain rfl := Option.some.inj ho
          exact Or.inl ⟨by rfl, fun wx hSw => by go_simp⟩
        simp only [Act.put, List.setIfInBounds_toArray, List.set_cons_zero, List.set_cons_succ]
        refine ready_call (i := 5) (d := some 50) (f := 21) (args := #[.int .i64 (K : Int)]) rfl (by kernel_rfl) (fun oi ho => ?_) ?_
        · obtain rfl := Option.some.inj ho
          exact ⟨by rfl, by go_simp⟩
        refine (HIT.out Wq HBq.out).mono ?_
        rintro e W5 ⟨rfl, hB⟩
        have hS5 : W5.cell? ⟨b1, 5, none⟩ = some (S bd) := by rw [hB.cell (World.block_lt_of_cell? Wq _ HSQ.out)]; exact HSQ.out
        have HB5 := Lib.hid (HBq.out.trans (hB.mono HBq.out.size))
        clear HSQ hB
        have HSQ := Lib.hid hS5
        clear hS5
        refine ⟨_, rfl, HSQ.out, ?_⟩
        simp only [Act.put, List.setIfInBounds_toArray, List.set_cons_zero, List.set_cons_succ]
        refine take_at (i := 6) (d := some 51) (v := S Z2) rfl (by kernel_rfl) (by kernel_rfl) (by kernel_rfl) (fun _ _ _ h => h) (fun oi ho => ?_) HSQ.out ?_
        · obtain rfl := Option.some.inj ho
          exact Or.inl ⟨by rfl, fun wx hSw => by go_simp⟩
        simp only [Act.put, List.setIfInBounds_toArray, List.set_cons_zero, List.set_cons_succ]
        refine take_at (i := 7) (d := some 52) (v := S Z3) rfl (by kernel_rfl) (by kernel_rfl) (by kernel_rfl) (fun _ _ _ h => h) (fun oi ho => ?_) HSQ.out ?_
        · obtain rfl := Option.some.inj ho
          exact Or.inl ⟨by rfl, fun wx hSw => by go_simp⟩
        simp only [Act.put, List.setIfInBounds_toArray, List.set_cons_zero, List.set_cons_succ]
        refine take_at (i := 10) (d := some 55) (v := S Z4) rfl (by kernel_rfl) (by kernel_rfl) (by kernel_rfl) (fun _ _ _ h => h) (fun oi ho => ?_) HSQ.out ?_
        · obtain rfl := Option.some.inj ho
          exact Or.inl ⟨by rfl, fun wx hSw => by go_simp⟩
        simp only [Act.put, List.setIfInBounds_toArray, List.set_cons_zero, List.set_cons_succ]
        refine take_at (i := 11) (d := some 2) (v := S Z4) rfl (by kernel_rfl) (by kernel_rfl) (by kernel_rfl) (fun _ _ _ h => h) (fun oi ho => ?_) HSQ.out ?_
        · obtain rfl := Option.some.inj ho
          exact Or.inl ⟨by rfl, fun wx hSw => by go_simp⟩
        simp only [Act.put, List.setIfInBounds_toArray, List.set_cons_zero, List.set_cons_succ]
        refine wpAnyH_done (by kernel_rfl) ?_ _
        refine NoPanic.normal ?_
        go_wp2
        go_ret
        exact ⟨by rw [HBO.out]; rfl, HB5.out⟩
end Go.Proofs.YtplajlccnnbifaaGreatDoor
