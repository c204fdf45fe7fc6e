/- The law's tell, sameFields, same walked (stage 13). -/
import Derived.Test.YtbnlkjoblngakaaDoorKa
import Derived.Deep.QuietTactic
import Derived.BigQuiet
namespace Go.Proofs.YtbnlkjoblngakaaDoor
open Go.RowKit
attribute [local go_sem] store_one S_match S_store

/-- One result, in a variable of its own. -/
theorem results_row_one {P : Program} {fn : Func} {p : Tmp} {ty : TypeId} (h : fn.results = #[.cell p ty]) (tmps : Array Value) (w : World) (g : Nat) (t : TypeId) (cs : Array Value) (fr : Nat × Nat) (d : TypeDesc)
    (hp : tmps.getD p undef = .pointer (some ⟨g, 0, none⟩)) (hg : w.heap[g]? = some (.cells cs t fr))
    (hu : P.underlying ty = some d) (hd : (match d with | .struct _ | .array _ _ => true | _ => false) = true) (hi : (P.info? ty).map (·.size) = some cs.size) :
    (results fn tmps).run P w = .ok (.agg cs) w := by
  have hp' : tmps[p]?.getD undef = .pointer (some ⟨g, 0, none⟩) := by simpa using hp
  simp [results, h, hp', asAddr, run_loadVar_row w g t ty cs fr d hg hu hd hi]
theorem infoRp : (Tryd.prog.info? 27).map (·.size) = some 3 := by kernel_rfl
def put3k (W : World) (b : Nat) (v0 v1 v2 : Value) : World := ((W.setCell ⟨b, 0, none⟩ v0).setCell ⟨b, 1, none⟩ v1).setCell ⟨b, 2, none⟩ v2
theorem put3k_row {W : World} {b : Nat} {t : TypeId} {a0 a1 a2 : Value} (h : Row W b #[a0, a1, a2] t) (v0 v1 v2 : Value) : Row (put3k W b v0 v1 v2) b #[v0, v1, v2] t := ((h.set 0 v0).set 1 v1).set 2 v2
theorem put3k_below {n : Nat} {w W : World} {b : Nat} (h : Below n w W) (hb : n ≤ b) (v0 v1 v2 : Value) : Below n w (put3k W b v0 v1 v2) :=
  ((h.setCell (p := ⟨b, 0, none⟩) hb v0).setCell (p := ⟨b, 1, none⟩) hb v1).setCell (p := ⟨b, 2, none⟩) hb v2
set_option maxRecDepth 100000 in
set_option maxHeartbeats 1000000 in
theorem tell_any (r : Rq) (V : Value) (w : World) : Calls Tryd.prog 20 #[rqV r V] w fun e w' => e = .returned (rpV 200 (.slice none 0 0) r.p) ∧ Below w.heap.size w w' := by
  unfold rqV rqC
  obtain ⟨m, p, q, v, fs, body, cl⟩ := r
  dsimp only
  go_enter Tryd.func20, Tryd.ntmps20
  go_wp2
  refine bodyPost_ret (results_row_one rfl _ _ (w.heap.size + 1) 27 #[.int .i64 200, .slice none 0 0, S p] (0, 0) _ rfl ?_ Tryd.underlying27 rfl infoRp) rfl ?_
  · have h := row_new (w.alloc (.cells #[S m, S p, S q, .int .i64 v, V, S body, .bool cl] 25)) #[.int .i64 200, .slice none 0 0, S p] 27
    rw [alloc_size] at h
    exact h
  · exact ⟨rfl, ((Below.refl _ w).alloc (Nat.le_refl _) _).alloc (by rw [alloc_size]; omega) _⟩
theorem eq_selfK (p : Tx) (w : World) : (Op.equalIn 9999 9 (S p) (S p)).run Tryd.prog w = .ok true w := eq_self p w
set_option maxRecDepth 100000 in
set_option maxHeartbeats 1000000 in
theorem sameF13_true (fs : Fds) (Va Vb : Value) (ga oa gb ob : Nat) (hlen : fs.length ≤ 1000000) (w : World) (ha : FA w Va fs ga oa) (hb : FA w Vb fs gb ob) :
    Calls Tryd.prog 19 #[Va, Vb] w fun e w' => e = .returned (.bool true) ∧ Below w.heap.size w w' := by
  have hla := ha.len 3
  have hlb := hb.len 3
  have HH := Lib.hid (And.intro ha hb)
  obtain ⟨N, hN⟩ : ∃ N, N = fs.length := ⟨_, rfl⟩
  rw [← hN] at hla hlb hlen
  have HN := Lib.hid hN
  clear hN ha hb
  have g0 : ((N : Int) != (N : Int)) = false := by simp
  go_enter Tryd.func19, Tryd.ntmps19
  go_wp2
  go_loopw [5] (fun iv wr => ∃ i : Nat, i ≤ N ∧ iv = .int .i64 (i : Int) ∧ Hid (Below w.heap.size w wr)) (fun iv _ => N - (intOf iv).toNat)
  case atStart => exact ⟨0, Nat.zero_le _, rfl, Lib.hid (Below.refl _ _)⟩
  case round =>
    obtain ⟨i, hi, rfl, HB⟩ := hrel
    by_cases hlt : i < N
    · have g1 : decide ((i : Int) < (N : Int)) = true := decide_eq_true (by omega)
      obtain ⟨⟨n, u⟩, hf⟩ : ∃ f, fs[i]? = some f := ⟨fs[i]'(by have := HN.out; omega), List.getElem?_eq_getElem _⟩
      have ha := HH.out.1.below HB.out
      have hb := HH.out.2.below HB.out
      have hia := ha.index i (by have := HN.out; omega)
      have hib := hb.index i (by have := HN.out; omega)
      have ca := ha.cell i _ hf
      have cb := hb.cell i _ hf
      obtain ⟨ka, hka⟩ : ∃ k, k = oa + i * 2 := ⟨_, rfl⟩
      obtain ⟨kb, hkb⟩ : ∃ k, k = ob + i * 2 := ⟨_, rfl⟩
      rw [← hka] at hia ca
      rw [← hkb] at hib cb
      have ca0 : wr.cell? ⟨ga, ka, none⟩ = some (S n) := ca.1
      have ca1 : wr.cell? ⟨ga, ka + 1, none⟩ = some (S u) := ca.2
      have cb0 : wr.cell? ⟨gb, kb, none⟩ = some (S n) := cb.1
      have cb1 : wr.cell? ⟨gb, kb + 1, none⟩ = some (S u) := cb.2
      have ea0 : wr.drew.cell? ⟨ga, ka, none⟩ = some (S n) := ca.1
      have ea1 : wr.drew.cell? ⟨ga, ka + 1, none⟩ = some (S u) := ca.2
      have eb0 : wr.drew.cell? ⟨gb, kb, none⟩ = some (S n) := cb.1
      have eb1 : wr.drew.cell? ⟨gb, kb + 1, none⟩ = some (S u) := cb.2
      have hw1 : IntKind.i64.wrap ((i : Int) + 1) = (i : Int) + 1 := by rw [IntKind.wrap_i64]; omega
      have q1 := eq_self n
      have q2 := eq_self u
      clear ha hb ca cb hf hka hkb
      have hmx : Tryd.prog.follows .mixedOrders = true := by kernel_rfl
      go_wp2
      go_region
      go_wp2
      exact ⟨⟨i + 1, by omega, by go_num, Lib.hid (HB.out.trans ⟨rfl, rfl, rfl, Nat.le_refl _, fun _ _ => rfl⟩)⟩, by simp [intOf]; omega⟩
    · have g1 : decide ((i : Int) < (N : Int)) = false := decide_eq_false (by omega)
      go_wp2
      go_ret
      exact ⟨rfl, HB.out⟩
set_option maxRecDepth 100000 in
set_option maxHeartbeats 1000000 in
theorem same13_true (c : Int) (body : Tx) (fs : Fds) (Va Vb : Value) (ga oa gb ob : Nat) (hlen : fs.length ≤ 1000000) (w : World) (ha : FA w Va fs ga oa) (hb : FA w Vb fs gb ob) :
    Calls Tryd.prog 17 #[rpV c Va body, rpV c Vb body] w fun e w' => e = .returned (.bool true) ∧ Below w.heap.size w w' := by
  unfold rpV rpC
  obtain ⟨W2, hW2⟩ : ∃ W, W = (w.alloc (.cells #[.int .i64 c, Va, S body] 27)).alloc (.cells #[.int .i64 c, Vb, S body] 27) := ⟨_, rfl⟩
  have hB2 : Below w.heap.size w W2 := by rw [hW2]; exact ((Below.refl _ w).alloc (Nat.le_refl _) _).alloc (by rw [alloc_size]; omega) _
  have HC := Lib.hid (sameF13_true fs Va Vb ga oa gb ob hlen W2 (ha.below hB2) (hb.below hB2))
  have HB := Lib.hid hB2
  have q1 : binOp .eql 9 (S body) (S body) = pure (.bool true) := by rw [eql_S]; simp
  have n1 : ∀ x y, eqGuard .eql 9 x y (S body) (S body) = pure () := fun x y => guard_S 9 x y body body
  rw [hW2] at HC
  clear ha hb hB2
  go_enter Tryd.func17, Tryd.ntmps17
  go_wp2_with fail
  refine HC.out.mono ?_
  rintro e w' ⟨rfl, hb⟩
  have HE := Lib.hid (HB.out.trans ((hW2 ▸ hb).mono HB.out.size))
  clear hb
  go_wp2
  go_ret
  exact ⟨rfl, HE.out⟩
end Go.Proofs.YtbnlkjoblngakaaDoor
