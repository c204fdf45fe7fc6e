/- The document's ReadHead (stage 15) walked. (mkef.py writes it.) -/
import Derived.Test.YtlmolmmhkddpaaaEc
import Derived.BigQuiet
namespace Go.Proofs.Ytlmolmmhkddpaaa
open Go.RowKit
attribute [local go_sem] store_one B_match B_store S_match S_store nguard_BN eguard_BN

/-- The document's head, as it lies. -/
def hrC (h : Hd) : Array Value := #[.bool h.fin, .bool h.masked, .bool h.least, .int .i64 (h.rsv : Int), .int .i64 (h.op : Int), B h.key.k0, B h.key.k1, B h.key.k2, B h.key.k3, .int .u64 (h.len : Int)]
def hrV (o : Option (Hd × Nat)) : Value := match o with
  | some x => .tuple #[.agg (hrC x.1), .int .i64 (x.2 : Int), .bool true]
  | none => .tuple #[.agg (hrC hd0), .int .i64 0, .bool false]
theorem infoHr : (Try.prog.info? 58).map (·.size) = some 10 := by kernel_rfl
/-- Three results, the first one in a variable of its own. -/
theorem results_row3E {P : Program} {fn : Func} {p u v : Tmp} {ty : TypeId} (h : fn.results = #[.cell p ty, .tmp u, .tmp v]) (tmps : Array Value) (w : World) (g : Nat) (t : TypeId) (cs : Array Value) (fr : Nat × Nat) (d : TypeDesc)
    (hp : tmps.getD p undef = .pointer (some ⟨g, 0, none⟩)) (hg : w.heap[g]? = some (.cells cs t fr))
    (hu : P.underlying ty = some d) (hd : (match d with | .struct _ | .array _ _ => true | _ => false) = true) (hi : (P.info? ty).map (·.size) = some cs.size) :
    (results fn tmps).run P w = .ok (.tuple #[.agg cs, tmps.getD u undef, tmps.getD v undef]) w := by
  have hp' : tmps[p]?.getD undef = .pointer (some ⟨g, 0, none⟩) := by simpa using hp
  simp [results, h, hp', asAddr, run_loadVar_row w g t ty cs fr d hg hu hd hi]
def put10 (W : World) (b : Nat) (v0 v1 v2 v3 v4 v5 v6 v7 v8 v9 : Value) : World := (((((((((W.setCell ⟨b, 0, none⟩ v0).setCell ⟨b, 1, none⟩ v1).setCell ⟨b, 2, none⟩ v2).setCell ⟨b, 3, none⟩ v3).setCell ⟨b, 4, none⟩ v4).setCell ⟨b, 5, none⟩ v5).setCell ⟨b, 6, none⟩ v6).setCell ⟨b, 7, none⟩ v7).setCell ⟨b, 8, none⟩ v8).setCell ⟨b, 9, none⟩ v9
theorem put10_row {W : World} {b : Nat} {t : TypeId} {a0 a1 a2 a3 a4 a5 a6 a7 a8 a9 : Value} (h : Row W b #[a0, a1, a2, a3, a4, a5, a6, a7, a8, a9] t) (v0 v1 v2 v3 v4 v5 v6 v7 v8 v9 : Value) : Row (put10 W b v0 v1 v2 v3 v4 v5 v6 v7 v8 v9) b #[v0, v1, v2, v3, v4, v5, v6, v7, v8, v9] t := by
  unfold put10
  have h0 : Row (W.setCell ⟨b, 0, none⟩ v0) b #[v0, a1, a2, a3, a4, a5, a6, a7, a8, a9] t := h.set 0 v0
  have h1 : Row ((W.setCell ⟨b, 0, none⟩ v0).setCell ⟨b, 1, none⟩ v1) b #[v0, v1, a2, a3, a4, a5, a6, a7, a8, a9] t := h0.set 1 v1
  have h2 : Row (((W.setCell ⟨b, 0, none⟩ v0).setCell ⟨b, 1, none⟩ v1).setCell ⟨b, 2, none⟩ v2) b #[v0, v1, v2, a3, a4, a5, a6, a7, a8, a9] t := h1.set 2 v2
  have h3 : Row ((((W.setCell ⟨b, 0, none⟩ v0).setCell ⟨b, 1, none⟩ v1).setCell ⟨b, 2, none⟩ v2).setCell ⟨b, 3, none⟩ v3) b #[v0, v1, v2, v3, a4, a5, a6, a7, a8, a9] t := h2.set 3 v3
  have h4 : Row (((((W.setCell ⟨b, 0, none⟩ v0).setCell ⟨b, 1, none⟩ v1).setCell ⟨b, 2, none⟩ v2).setCell ⟨b, 3, none⟩ v3).setCell ⟨b, 4, none⟩ v4) b #[v0, v1, v2, v3, v4, a5, a6, a7, a8, a9] t := h3.set 4 v4
  have h5 : Row ((((((W.setCell ⟨b, 0, none⟩ v0).setCell ⟨b, 1, none⟩ v1).setCell ⟨b, 2, none⟩ v2).setCell ⟨b, 3, none⟩ v3).setCell ⟨b, 4, none⟩ v4).setCell ⟨b, 5, none⟩ v5) b #[v0, v1, v2, v3, v4, v5, a6, a7, a8, a9] t := h4.set 5 v5
  have h6 : Row (((((((W.setCell ⟨b, 0, none⟩ v0).setCell ⟨b, 1, none⟩ v1).setCell ⟨b, 2, none⟩ v2).setCell ⟨b, 3, none⟩ v3).setCell ⟨b, 4, none⟩ v4).setCell ⟨b, 5, none⟩ v5).setCell ⟨b, 6, none⟩ v6) b #[v0, v1, v2, v3, v4, v5, v6, a7, a8, a9] t := h5.set 6 v6
  have h7 : Row ((((((((W.setCell ⟨b, 0, none⟩ v0).setCell ⟨b, 1, none⟩ v1).setCell ⟨b, 2, none⟩ v2).setCell ⟨b, 3, none⟩ v3).setCell ⟨b, 4, none⟩ v4).setCell ⟨b, 5, none⟩ v5).setCell ⟨b, 6, none⟩ v6).setCell ⟨b, 7, none⟩ v7) b #[v0, v1, v2, v3, v4, v5, v6, v7, a8, a9] t := h6.set 7 v7
  have h8 : Row (((((((((W.setCell ⟨b, 0, none⟩ v0).setCell ⟨b, 1, none⟩ v1).setCell ⟨b, 2, none⟩ v2).setCell ⟨b, 3, none⟩ v3).setCell ⟨b, 4, none⟩ v4).setCell ⟨b, 5, none⟩ v5).setCell ⟨b, 6, none⟩ v6).setCell ⟨b, 7, none⟩ v7).setCell ⟨b, 8, none⟩ v8) b #[v0, v1, v2, v3, v4, v5, v6, v7, v8, a9] t := h7.set 8 v8
  have h9 : Row ((((((((((W.setCell ⟨b, 0, none⟩ v0).setCell ⟨b, 1, none⟩ v1).setCell ⟨b, 2, none⟩ v2).setCell ⟨b, 3, none⟩ v3).setCell ⟨b, 4, none⟩ v4).setCell ⟨b, 5, none⟩ v5).setCell ⟨b, 6, none⟩ v6).setCell ⟨b, 7, none⟩ v7).setCell ⟨b, 8, none⟩ v8).setCell ⟨b, 9, none⟩ v9) b #[v0, v1, v2, v3, v4, v5, v6, v7, v8, v9] t := h8.set 9 v9
  exact h9
theorem below_set {n : Nat} {w W : World} {b j : Nat} (h : Below n w W) (hb : n ≤ b) (v : Value) : Below n w (W.setCell ⟨b, j, none⟩ v) := h.setCell (p := ⟨b, j, none⟩) hb v
theorem put10_below {n : Nat} {w W : World} {b : Nat} (h : Below n w W) (hb : n ≤ b) (v0 v1 v2 v3 v4 v5 v6 v7 v8 v9 : Value) : Below n w (put10 W b v0 v1 v2 v3 v4 v5 v6 v7 v8 v9) :=
  below_set (below_set (below_set (below_set (below_set (below_set (below_set (below_set (below_set (below_set h hb v0) hb v1) hb v2) hb v3) hb v4) hb v5) hb v6) hb v7) hb v8) hb v9
def keyA (k0 k1 k2 k3 : UInt8) (j : Nat) : Array Value := #[.bool false, .bool false, .bool false, .int .i64 0, .int .i64 0, if 0 < j then B k0 else .int .u8 0, if 1 < j then B k1 else .int .u8 0, if 2 < j then B k2 else .int .u8 0, if 3 < j then B k3 else .int .u8 0, .int .u64 0]
theorem ofBE_next {t : List UInt8} {i : Nat} {c : UInt8} (hc : t[i]? = some c) : ofBE (t.take (i + 1)) = ofBE (t.take i) * 256 + c.toNat := by
  rw [List.take_add_one, hc, Option.toList_some, ofBE_snoc]
theorem conv_b64 {P : Program} {tb ti : TypeId} (h1 : P.underlying tb = some (.int .u8)) (h2 : P.underlying ti = some (.int .u64)) (c : UInt8) (w : World) : (convert tb ti (B c)).run P w = .ok (.int .u64 (c.toNat : Int)) w := by
  have := c.toNat_lt
  have e : IntKind.u64.wrap (c.toNat : Int) = (c.toNat : Int) := by simp [IntKind.wrap, IntKind.bits, IntKind.signed]; omega
  simp [convert, B, run_underlying h1, run_underlying h2, e, go_sem]
set_option maxRecDepth 100000 in
set_option maxHeartbeats 4000000 in
theorem rhead_short (s : List UInt8) (hs : s.length < 2) (w : World) : Calls Try.prog 21 #[S s] w fun e w' => e = .returned (hrV (readHeadF s)) ∧ Below w.heap.size w w' := by
  have hlS := run_len_S (P := Try.prog) Try.underlying9 3 s
  have HV : Hid (readHeadF s = none) := Lib.hid (by
    rcases s with _ | ⟨a, _ | ⟨b, t⟩⟩
    · rfl
    · rfl
    · simp at hs; omega)
  obtain ⟨N, hN⟩ : ∃ N, N = s.length := ⟨_, rfl⟩
  rw [← hN] at hlS hs
  clear hN
  have g1 : decide ((N : Int) < 2) = true := decide_eq_true (by omega)
  go_enter Try.func21, Try.ntmps21
  go_wp2
  refine bodyPost_ret (results_row3E rfl _ _ w.heap.size 58 #[.bool false, .bool false, .bool false, .int .i64 0, .int .i64 0, .int .u8 0, .int .u8 0, .int .u8 0, .int .u8 0, .int .u64 0] (0, 0) _ rfl ((row_new w _ _).alloc _) Try.underlying58 rfl infoHr) rfl ?_
  exact ⟨by rw [HV.out]; rfl, ((Below.refl _ w).alloc (Nat.le_refl _) _).alloc (by rw [alloc_size]; omega) _⟩
end Go.Proofs.Ytlmolmmhkddpaaa
