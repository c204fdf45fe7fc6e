/- The landed appendWritten and Join walked. (mkav4.py writes it.) -/
import Derived.Test.YtmklgjbfdaleiaaDoorAv3
import Derived.Test.YtmklgjbfdaleiaaDoorAd
import Derived.Deep.AppendLies
namespace Go.Proofs.YtmklgjbfdaleiaaDoor
open Go.RowKit
attribute [local go_sem] store_one B_match B_store S_match S_store eguard_BN nguard_BN

/-- One of the four marks that are written as they are. -/
def markB (c : UInt8) : Bool := decide (0 ≤ Lib.indexByte [45, 46, 95, 126] c)
theorem plain_is (c : UInt8) : plainB c = (decide (65 ≤ c.toNat ∧ c.toNat ≤ 90) || decide (97 ≤ c.toNat ∧ c.toNat ≤ 122) || decide (48 ≤ c.toNat ∧ c.toNat ≤ 57) || markB c) := by
  have := all_bytes (p := fun c => plainB c == (decide (65 ≤ c.toNat ∧ c.toNat ≤ 90) || decide (97 ≤ c.toNat ∧ c.toNat ≤ 122) || decide (48 ≤ c.toNat ∧ c.toNat ≤ 57) || markB c)) (by decide +kernel) c
  exact beq_iff_eq.1 this
set_option maxRecDepth 100000 in
set_option maxHeartbeats 1000000 in
theorem asis_any (c : UInt8) (w : World) : Calls Tryd.prog 33 #[B c] w fun e w' => e = .returned (.bool (plainB c)) ∧ w' = w := by
  have h65 := B_geq 5 c 65
  have h90 := B_leq 5 c 90
  have h97 := B_geq 5 c 97
  have h122 := B_leq 5 c 122
  have h48 := B_geq 5 c 48
  have h57 := B_leq 5 c 57
  have hE := plain_is c
  have hM : ∀ w, Calls Tryd.prog 40 #[.string ⟨#[45, 46, 95, 126]⟩, B c] w fun e w' => ∃ k : Int, e = .returned (.int .i64 k) ∧ decide (0 ≤ k) = markB c ∧ w' = w := by
    intro w
    refine (Tryd.strings_IndexByte ⟨#[45, 46, 95, 126]⟩ (c.toNat : Int) w).mono ?_
    rintro e w' ⟨rfl, rfl⟩
    have e2 : (c.toNat : Int).toNat.toUInt8 = c := by simp
    exact ⟨_, rfl, by rw [e2]; rfl, rfl⟩
  have HM := Lib.hid hM
  clear hM
  obtain ⟨mk, hmk⟩ : ∃ m, m = markB c := ⟨_, rfl⟩
  rw [← hmk] at HM hE
  have hl := c.toNat_lt
  have hcs : (c.toNat < 48) ∨ (48 ≤ c.toNat ∧ c.toNat ≤ 57) ∨ (57 < c.toNat ∧ c.toNat < 65) ∨ (65 ≤ c.toNat ∧ c.toNat ≤ 90) ∨ (90 < c.toNat ∧ c.toNat < 97) ∨ (97 ≤ c.toNat ∧ c.toNat ≤ 122) ∨ (122 < c.toNat) := by omega
  clear hmk
  rcases hcs with a | a | a | a | a | a | a
  · have hP : plainB c = mk := by rw [hE]; cases mk <;> simp <;> omega
    rw [hP]
    rw [decide_eq_false (by omega)] at h65
    rw [decide_eq_false (by omega)] at h97
    rw [decide_eq_false (by omega)] at h48
    clear h90 h122 h57 a hE hP hl
    go_enter Tryd.func33, Tryd.ntmps33
    go_wp2_with (first
      | (go_at_call 40; refine (HM.out _).mono ?_; rintro e w' ⟨k, rfl, hk, hw⟩; rw [hw]; clear hw)
      | fail)
    go_ret
    exact ⟨by rw [← hk]; rfl, rfl⟩
  · have hP : plainB c = true := by rw [hE]; simp [a]
    rw [hP]
    rw [decide_eq_false (by omega)] at h65
    rw [decide_eq_false (by omega)] at h97
    rw [decide_eq_true (by omega)] at h48
    rw [decide_eq_true (by omega)] at h57
    clear h90 h122 a hE hP hl
    go_enter Tryd.func33, Tryd.ntmps33
    go_wp2
    go_ret
    exact ⟨rfl, rfl⟩
  · have hP : plainB c = mk := by rw [hE]; cases mk <;> simp <;> omega
    rw [hP]
    rw [decide_eq_false (by omega)] at h65
    rw [decide_eq_false (by omega)] at h97
    rw [decide_eq_true (by omega)] at h48
    rw [decide_eq_false (by omega)] at h57
    clear h90 h122 a hE hP hl
    go_enter Tryd.func33, Tryd.ntmps33
    go_wp2_with (first
      | (go_at_call 40; refine (HM.out _).mono ?_; rintro e w' ⟨k, rfl, hk, hw⟩; rw [hw]; clear hw)
      | fail)
    go_ret
    exact ⟨by rw [← hk]; rfl, rfl⟩
  · have hP : plainB c = true := by rw [hE]; simp [a]
    rw [hP]
    rw [decide_eq_true (by omega)] at h65
    rw [decide_eq_true (by omega)] at h90
    clear h97 h122 h48 h57 a hE hP hl
    go_enter Tryd.func33, Tryd.ntmps33
    go_wp2
    go_ret
    exact ⟨rfl, rfl⟩
  · have hP : plainB c = mk := by rw [hE]; cases mk <;> simp <;> omega
    rw [hP]
    rw [decide_eq_true (by omega)] at h65
    rw [decide_eq_false (by omega)] at h90
    rw [decide_eq_false (by omega)] at h97
    rw [decide_eq_true (by omega)] at h48
    rw [decide_eq_false (by omega)] at h57
    clear h122 a hE hP hl
    go_enter Tryd.func33, Tryd.ntmps33
    go_wp2_with (first
      | (go_at_call 40; refine (HM.out _).mono ?_; rintro e w' ⟨k, rfl, hk, hw⟩; rw [hw]; clear hw)
      | fail)
    go_ret
    exact ⟨by rw [← hk]; rfl, rfl⟩
  · have hP : plainB c = true := by rw [hE]; simp [a]
    rw [hP]
    rw [decide_eq_true (by omega)] at h65
    rw [decide_eq_false (by omega)] at h90
    rw [decide_eq_true (by omega)] at h97
    rw [decide_eq_true (by omega)] at h122
    clear h48 h57 a hE hP hl
    go_enter Tryd.func33, Tryd.ntmps33
    go_wp2
    go_ret
    exact ⟨rfl, rfl⟩
  · have hP : plainB c = mk := by rw [hE]; cases mk <;> simp <;> omega
    rw [hP]
    rw [decide_eq_true (by omega)] at h65
    rw [decide_eq_false (by omega)] at h90
    rw [decide_eq_true (by omega)] at h97
    rw [decide_eq_false (by omega)] at h122
    rw [decide_eq_true (by omega)] at h48
    rw [decide_eq_false (by omega)] at h57
    clear  a hE hP hl
    go_enter Tryd.func33, Tryd.ntmps33
    go_wp2_with (first
      | (go_at_call 40; refine (HM.out _).mono ?_; rintro e w' ⟨k, rfl, hk, hw⟩; rw [hw]; clear hw)
      | fail)
    go_ret
    exact ⟨by rw [← hk]; rfl, rfl⟩

/-! Slices of bytes with a mark. -/
theorem info5B : ∃ i, Tryd.prog.info? 5 = some i ∧ i.zero = some (Value.int .u8 0) ∧ i.size = 1 ∧ i.bytes = 1 := by
  have := (by kernel_rfl : (Tryd.prog.info? 5).map (fun i => (i.zero, i.size, i.bytes)) = some (some (Value.int .u8 0), 1, 1))
  cases hi : Tryd.prog.info? 5 with
  | none => rw [hi] at this; cases this
  | some i =>
    simp only [hi, Option.map_some, Option.some.injEq, Prod.mk.injEq] at this
    exact ⟨i, rfl, this.1, this.2.1, this.2.2⟩
theorem own_of_row5 {w : World} {b : Nat} {v : Value} {l : List UInt8} (h : w.ownsRow b 5 1 v l.length (l.map B)) : Own b v (l.map B) w := by
  rcases h.2 with ⟨rfl, h0⟩ | ⟨g, cap, cur, rfl, hb, hg, hn, hm, hs, ht⟩
  · have : l = [] := List.length_eq_zero_iff.1 h0
    subst this
    exact .inl ⟨rfl, rfl⟩
  · rw [Nat.mul_one] at hs ht
    refine .inr ⟨g, cap, by rw [List.length_map], hb, (Array.getElem?_eq_some_iff.1 hg).1, by rw [List.length_map]; exact hn, hm, fun j u hu => ?_, fun j hj => ?_⟩
    · rw [Nat.zero_add, cell_of_row w g j cur 5 (0, 0) hg]
      rw [← ht, List.getElem?_take] at hu
      split at hu
      · simpa using hu
      · cases hu
    · rw [Nat.zero_add]
      refine ⟨?_, frozen_of_row w g j cur 5 hg⟩
      rw [cell_of_row w g j cur 5 (0, 0) hg, Array.getElem?_eq_getElem (by omega)]; rfl
theorem row_lo {w : World} {b : Nat} {e : TypeId} {k n : Nat} {v : Value} {xs : List Value} (h : w.ownsRow b e k v n xs) : ∀ j, v.ownBlock = some j → b ≤ j := fun j hj => by
  rcases h.2 with ⟨rfl, _⟩ | ⟨g, cap, cur, rfl, hb, _⟩
  · cases hj
  · obtain rfl : g = j := by simpa [Value.ownBlock] using hj
    exact hb
/-- Bytes so far, in a marked slice from b on. -/
def RB (b : Nat) (w : World) (v : Value) (l : List UInt8) (W : World) : Prop := W.ownsRow b 5 1 v l.length (l.map B) ∧ Below b w W ∧ b ≤ W.heap.size
theorem RB.grown {b : Nat} {w : World} {v v' : Value} {l l' : List UInt8} {W W' : World} (h : RB b w v l W) (ho : W'.ownsRow b 5 1 v' l'.length (l'.map B)) (hg : W.grownBy W' v.ownBlock) : RB b w v' l' W' :=
  ⟨ho, below_grown h.2.1 hg (row_lo h.1) h.2.2, Nat.le_trans h.2.2 hg.size⟩
theorem RB.kept {b : Nat} {w : World} {v : Value} {l : List UInt8} {W W' : World} (h : RB b w v l W) (hb : Below W.heap.size W W') : RB b w v l W' :=
  ⟨⟨h.1.1, by
    rcases h.1.2 with h2 | ⟨g, cap, cur, rfl, h3, hg, h5⟩
    · exact .inl h2
    · exact .inr ⟨g, cap, cur, rfl, h3, (hb.block g (Array.getElem?_eq_some_iff.1 hg).1).trans hg, h5⟩⟩, h.2.1.trans (hb.mono h.2.2), Nat.le_trans h.2.2 hb.size⟩
theorem run_addR {b : Nat} {w : World} {v : Value} {l : List UInt8} {W : World} (h : RB b w v l W) (ys : List UInt8) (hy : 0 < ys.length) (hl : l.length + ys.length ≤ 100000) (ty : TypeId) :
    ∃ v' W', (Builtin.append_ #[31, 31] ty #[v, .slice (some ⟨W.heap.size, 0, none⟩) ys.length ys.length]).run Tryd.prog (W.alloc (.cells (ys.map B).toArray 5)) = .ok v' W' ∧ RB b w v' (l ++ ys) W' := by
  obtain ⟨i, hi, hz, hsz, hby⟩ := info5B
  have hr := row_new W (ys.map B).toArray 5
  have h1 : RB b w v l (W.alloc (.cells (ys.map B).toArray 5)) := h.kept ((Below.refl _ _).alloc (Nat.le_refl _) _)
  obtain ⟨g, cap, w', hrun, ho, hg, -, -⟩ := run_append_lies (P := Tryd.prog) (W.alloc (.cells (ys.map B).toArray 5)) 31 ty b 5 i (.int .u8 0) 1 1 Tryd.underlying31 hi hz hsz hby rfl (by omega) v l.length (l.map B) h1.1 ⟨W.heap.size, 0, none⟩ ys.length ys.length (ys.map B) (by rw [List.length_map, Nat.mul_one]) (fun j u hu => by
    rw [Addr.add_mid]
    simp only [Nat.zero_add]
    rw [cell_of_row _ _ j _ _ _ hr]
    simpa using hu) (fun u hu => by
    obtain ⟨c, _, rfl⟩ := List.mem_map.1 hu
    rfl) hy (by simp only [maxLen]; omega) (by omega) h1.2.2 _ rfl
  refine ⟨_, w', hrun, h1.grown ?_ hg⟩
  rw [List.length_append, List.map_append]
  exact ho
theorem run_addT {b : Nat} {w : World} {v : Value} {l : List UInt8} {W : World} (h : RB b w v l W) (c : UInt8) (hl : l.length ≤ 100000) (ty : TypeId) :
    ∃ v' W', (Builtin.append_ #[31, 9] ty #[v, .string ⟨#[c]⟩]).run Tryd.prog W = .ok v' W' ∧ RB b w v' (l ++ [c]) W' := by
  obtain ⟨i, hi, hz, hsz, hby⟩ := info5B
  have hs : (⟨#[c]⟩ : ByteArray).size = 1 := rfl
  have hc : Lib.strCells ⟨#[c]⟩ = [B c] := rfl
  obtain ⟨v', w', hrun, ho, hg, -⟩ := Lib.run_append_own_string (P := Tryd.prog) W b 31 9 ty 5 i Tryd.underlying31 Tryd.underlying9 hi hz hsz hby v l.length (l.map B) h.1 ⟨#[c]⟩ (by rw [hs]; simp only [maxLen]; omega) (by rw [hs]; omega) h.2.2
  rw [hs, hc] at ho
  refine ⟨v', w', hrun, h.grown ?_ hg⟩
  rw [List.length_append, List.map_append]
  exact ho
section
variable {ops : Array Oper} {rest : List Oper} {o : Oper} {a : Act} {w : World} {Q : Exit → Act → World → Prop}
theorem wpList_addR (hgd : o.guard = none) (s x : Operand) (ho : o.op = .call { callee := .builtin .append, args := #[s, x], argTypes := #[31, 31] }) {b : Nat} {w0 : World} {v : Value} {l : List UInt8} {W : World} (h : RB b w0 v l W) (hs : a.eval s = v) (y : UInt8)
    (cs : Array Value) (hcs : cs = #[B y]) (hw : w = W.alloc (.cells cs 5)) (H : Nat) (hH : W.heap.size = H) (hx : a.eval x = .slice (some ⟨H, 0, none⟩) 1 1) (hl : l.length ≤ 50000)
    (hK : ∀ v' W', RB b w0 v' (l ++ [y]) W' → wpList Tryd.prog ops Q rest (a.put o.dst v') W') : wpList Tryd.prog ops Q (o :: rest) a w := by
  subst hw hcs hs hH
  obtain ⟨v', W', hr, h2⟩ := run_addR h [y] (by simp) (by simp; omega) o.type
  refine wpList_exec hgd v' W' ?_ (hK _ _ h2)
  have hr : (Builtin.append_ #[31, 31] o.type #[a.eval s, .slice (some ⟨W.heap.size, 0, none⟩) 1 1]).run Tryd.prog (W.alloc (.cells #[B y] 5)) = .ok v' W' := hr
  simp only [execOp, ho, resolve, invoke, builtin, Sem.run_bind, Sem.run_pure, Result.andThen_ok, List.map_toArray, List.map_cons, List.map_nil, hx, hr]
theorem wpList_addT (hgd : o.guard = none) (s x : Operand) (ho : o.op = .call { callee := .builtin .append, args := #[s, x], argTypes := #[31, 9] }) {b : Nat} {w0 : World} {v : Value} {l : List UInt8} (h : RB b w0 v l w) (hs : a.eval s = v) (y : UInt8) (hx : a.eval x = .string ⟨#[y]⟩) (hl : l.length ≤ 50000)
    (hK : ∀ v' W', RB b w0 v' (l ++ [y]) W' → wpList Tryd.prog ops Q rest (a.put o.dst v') W') : wpList Tryd.prog ops Q (o :: rest) a w := by
  subst hs
  obtain ⟨v', W', hr, h2⟩ := run_addT h y (by omega) o.type
  refine wpList_exec hgd v' W' ?_ (hK _ _ h2)
  simp only [execOp, ho, resolve, invoke, builtin, Sem.run_bind, Sem.run_pure, Result.andThen_ok, List.map_toArray, List.map_cons, List.map_nil, hx, hr]
end
theorem exec_appendB {o : Oper} {a : Act} {w w' : World} {v V v' : Value} (s x : Operand) (ho : o.op = .call { callee := .builtin .append, args := #[s, x], argTypes := #[31, 31] }) (hs : a.eval s = v) (hx : a.eval x = V)
    (hr : (Builtin.append_ #[31, 31] o.type #[v, V]).run Tryd.prog w = .ok v' w') : (execOp a.eval o).run Tryd.prog w = .ok (.value v') w' := by
  simp only [execOp, ho, resolve, invoke, builtin, Sem.run_bind, Sem.run_pure, Result.andThen_ok, List.map_toArray, List.map_cons, List.map_nil, hs, hx, hr]
theorem shr_u8 (c : UInt8) : binOp .shr 5 (B c) (.int .u64 4) = pure (.int .u8 ((c.toNat / 16 : Nat) : Int)) := by
  have := all_bytes (p := fun c => decide (IntKind.u8.wrap ((c.toNat : Int) / 16) = ((c.toNat / 16 : Nat) : Int))) (by decide +kernel) c
  have e := of_decide_eq_true this
  unfold B binOp
  simp [go_sem]
theorem and_u8 (c : UInt8) : binOp .and 5 (B c) (.int .u8 15) = pure (.int .u8 ((c.toNat % 16 : Nat) : Int)) := by
  have := all_bytes (p := fun c => decide (bits .and .u8 (c.toNat : Int) 15 = ((c.toNat % 16 : Nat) : Int))) (by decide +kernel) c
  have e := of_decide_eq_true this
  unfold B binOp
  simp [go_sem, e]
theorem index_text8 {P : Program} {ts : TypeId} (hu : P.underlying ts = some .string) (s : ByteArray) (l : List UInt8) (hl : s.data.toList = l) (n : Nat) (x : UInt8) (hx : l[n]? = some x) (w : World) : (Instr.index ts (.string s) (.int .u8 (n : Int))).run P w = .ok (B x) w := by
  subst hl
  obtain ⟨hlt, rfl⟩ := List.getElem?_eq_some_iff.1 hx
  have hs : n < s.size := by
    have := hlt
    rw [Array.length_toList] at this
    exact this
  rw [run_index_string (w := w) ts s .u8 n hu, dif_pos ⟨Int.natCast_nonneg _, by omega⟩]
  simp [B]
  rfl
theorem hexd_index (q : Nat) (hq : q < 16) (w : World) : (Instr.index 9 (.string ⟨#[48, 49, 50, 51, 52, 53, 54, 55, 56, 57, 65, 66, 67, 68, 69, 70]⟩) (.int .u8 (q : Int))).run Tryd.prog w = .ok (B (hexD q)) w :=
  index_text8 Tryd.underlying9 _ [48, 49, 50, 51, 52, 53, 54, 55, 56, 57, 65, 66, 67, 68, 69, 70] rfl q (hexD q) ((by decide +kernel : ∀ n : Fin 16, ([48, 49, 50, 51, 52, 53, 54, 55, 56, 57, 65, 66, 67, 68, 69, 70] : List UInt8)[n.1]? = some (hexD n.1)) ⟨q, hq⟩) w
theorem encS_take {s : List UInt8} {i : Nat} {c : UInt8} (h : s[i]? = some c) : encS (s.take (i + 1)) = encS (s.take i) ++ encC c := by
  unfold encS
  rw [List.take_add_one, h, Option.toList_some, List.flatMap_append]
  simp
theorem encC_len (c : UInt8) : (encC c).length ≤ 3 := by unfold encC; split <;> simp
set_option maxRecDepth 100000 in
set_option maxHeartbeats 2000000 in
theorem pwritten_any (b : Nat) (w0 : World) (v : Value) (l s : List UInt8) (w : World) (h : RB b w0 v l w) (hl : l.length ≤ 10000) (hs : s.length ≤ 1000) :
    Calls Tryd.prog 20 #[v, S s] w fun e w' => ∃ v', e = .returned v' ∧ RB b w0 v' (l ++ encS s) w' := by
  have hlen := run_len_S (P := Tryd.prog) Tryd.underlying9 3 s
  obtain ⟨L, hL⟩ : ∃ L, L = s.length := ⟨_, rfl⟩
  rw [← hL] at hlen hs
  have HI : Hid (RB b w0 v (l ++ encS (s.take 0)) w) := Lib.hid (by rw [List.take_zero, show encS [] = [] from rfl, List.append_nil]; exact h)
  have HL := Lib.hid hL
  clear hL h
  go_enter Tryd.func20, Tryd.ntmps20
  go_wp2
  go_loopw [0, 9] (fun vv iv wr => ∃ (i : Nat), iv = .int .i64 (i : Int) ∧ i ≤ L ∧ Hid (RB b w0 vv (l ++ encS (s.take i)) wr)) (fun _ iv _ => L - (intOf iv).toNat)
  case atStart => exact ⟨0, rfl, by omega, HI⟩
  case round =>
    obtain ⟨i, rfl, hi, HR⟩ := hrel
    have hw1 : IntKind.i64.wrap ((i : Int) + 1) = (i : Int) + 1 := by rw [IntKind.wrap_i64]; omega
    by_cases hlt : i < L
    case neg =>
      have HE : Hid (RB b w0 u0 (l ++ encS s) wr) := Lib.hid (by
        have := HR.out
        rw [show i = s.length by have := HL.out; omega, List.take_length] at this
        exact this)
      have hz : decide ((i : Int) < (L : Int)) = false := decide_eq_false (by omega)
      clear hw1
      go_wp2
      go_ret
      exact ⟨_, rfl, HE.out⟩
    case pos =>
      have hz : decide ((i : Int) < (L : Int)) = true := decide_eq_true (by omega)
      obtain ⟨c, hc⟩ : ∃ c, s[i]? = some c := ⟨s[i]'(by have := HL.out; omega), List.getElem?_eq_getElem _⟩
      have hidx : ∀ w, (Instr.index 9 (S s) (.int .i64 (i : Int))).run Tryd.prog w = .ok (B c) w := fun w => index_S (P := Tryd.prog) Tryd.underlying9 s i c hc w
      have HA := Lib.hid (fun W => asis_any c W)
      have HT := Lib.hid (encS_take hc)
      have hlb : (l ++ encS (s.take i)).length ≤ 20000 := by
        have h1 := encS_len (s.take i)
        rw [List.length_append, List.length_take] at *
        omega
      obtain ⟨X, hX⟩ : ∃ X, X = l ++ encS (s.take i) := ⟨_, rfl⟩
      have HX := Lib.hid hX
      rw [← hX] at HR hlb
      have hlx : X.length ≤ 50000 := by omega
      clear hc hX
      cases hp : plainB c with
      | true =>
        rw [hp] at HA
        have HN : Hid (l ++ encS (s.take (i + 1)) = X ++ [c]) := Lib.hid (by rw [HT.out, HX.out, List.append_assoc]; congr 2; unfold encC; rw [if_pos hp])
        clear hp
        go_wp2_with (first
          | (go_at_call 33; refine (HA.out _).mono ?_; rintro e w' ⟨rfl, hw⟩; rw [hw]; clear hw)
          | (at_builtin; refine wpList_addR rfl (.tmp 17) (.tmp 19) rfl HR.out rfl c _ rfl rfl _ rfl rfl hlx ?_; intro v7 W7 h7; have H7 := Lib.hid h7; clear h7)
          | fail)
        exact ⟨⟨i + 1, by go_num, by omega, Lib.hid (by rw [HN.out]; exact H7.out)⟩, by simp [intOf]; omega⟩
      | false =>
        rw [hp] at HA
        obtain ⟨q, hq⟩ : ∃ q, q = c.toNat / 16 := ⟨_, rfl⟩
        obtain ⟨r, hr⟩ : ∃ r, r = c.toNat % 16 := ⟨_, rfl⟩
        have hb := c.toNat_lt
        have hq16 : q < 16 := by omega
        have hr16 : r < 16 := by omega
        have hsh := shr_u8 c
        have han := and_u8 c
        rw [← hq] at hsh
        rw [← hr] at han
        have hi1 := hexd_index q hq16
        have hi2 := hexd_index r hr16
        have HN : Hid (l ++ encS (s.take (i + 1)) = X ++ [37, hexD q, hexD r]) := Lib.hid (by rw [HT.out, HX.out, List.append_assoc]; congr 2; unfold encC; rw [hp, hq, hr]; rfl)
        obtain ⟨y1, hy1⟩ : ∃ y, y = hexD q := ⟨_, rfl⟩
        obtain ⟨y2, hy2⟩ : ∃ y, y = hexD r := ⟨_, rfl⟩
        rw [← hy1] at hi1 HN
        rw [← hy2] at hi2 HN
        have HH := Lib.hid (And.intro hq16 hr16)
        clear hp hq hr hb hy1 hy2 hq16 hr16
        go_wp2_with (first
          | (go_at_call 33; refine (HA.out _).mono ?_; rintro e w' ⟨rfl, hw⟩; rw [hw]; clear hw)
          | fail)
        obtain ⟨Wq, hWq⟩ : ∃ Wq, Wq = wr.drew := ⟨_, rfl⟩
        have HQ : Hid (RB b w0 u0 X Wq) := Lib.hid (HR.out.kept (by rw [hWq]; exact ⟨rfl, rfl, rfl, Nat.le_refl _, fun _ _ => rfl⟩))
        obtain ⟨v8, W8, hr8, h8⟩ := run_addR HQ.out [37, y1, y2] (by simp) (by simp; omega) 31
        have hr8 : (Builtin.append_ #[31, 31] 31 #[u0, .slice (some ⟨Wq.heap.size, 0, none⟩) 3 3]).run Tryd.prog (Wq.alloc (.cells #[.int .u8 37, B y1, B y2] 5)) = .ok v8 W8 := hr8
        have H8 := Lib.hid h8
        have HR8 := Lib.hid hr8
        clear h8 hr8
        refine wp_region_noPanic ?_
        refine wp_region_held_drew (S := fun _ => True) (by kernel_rfl) trivial (fun _ => ?_)
        rw [← hWq]
        clear hWq
        refine take_at (i := 0) (d := some 21) (v := u0) rfl (by kernel_rfl) (by kernel_rfl) (by kernel_rfl) (fun _ _ _ h => h) (fun oi ho => ?_) trivial ?_
        · obtain rfl := Option.some.inj ho
          exact Or.inl ⟨by rfl, fun wx hSw => by go_simp⟩
        simp only [Act.put, List.setIfInBounds_toArray, List.set_cons_zero, List.set_cons_succ]
        refine take_at (i := 1) (d := some 22) (v := B c) rfl (by kernel_rfl) (by kernel_rfl) (by kernel_rfl) (fun _ _ _ h => h) (fun oi ho => ?_) trivial ?_
        · obtain rfl := Option.some.inj ho
          exact Or.inl ⟨by rfl, fun wx hSw => by go_simp⟩
        simp only [Act.put, List.setIfInBounds_toArray, List.set_cons_zero, List.set_cons_succ]
        refine take_at (i := 2) (d := some 23) (v := .int .u8 (q : Int)) rfl (by kernel_rfl) (by kernel_rfl) (by kernel_rfl) (fun _ _ _ h => h) (fun oi ho => ?_) trivial ?_
        · obtain rfl := Option.some.inj ho
          exact Or.inl ⟨by rfl, fun wx hSw => by go_simp⟩
        simp only [Act.put, List.setIfInBounds_toArray, List.set_cons_zero, List.set_cons_succ]
        refine take_at (i := 3) (d := some 24) (v := B y1) rfl (by kernel_rfl) (by kernel_rfl) (by kernel_rfl) (fun _ _ _ h => h) (fun oi ho => ?_) trivial ?_
        · obtain rfl := Option.some.inj ho
          exact Or.inl ⟨by rfl, fun wx hSw => by go_simp⟩
        simp only [Act.put, List.setIfInBounds_toArray, List.set_cons_zero, List.set_cons_succ]
        refine take_at (i := 4) (d := some 25) (v := B c) rfl (by kernel_rfl) (by kernel_rfl) (by kernel_rfl) (fun _ _ _ h => h) (fun oi ho => ?_) trivial ?_
        · obtain rfl := Option.some.inj ho
          exact Or.inl ⟨by rfl, fun wx hSw => by go_simp⟩
        simp only [Act.put, List.setIfInBounds_toArray, List.set_cons_zero, List.set_cons_succ]
        refine take_at (i := 5) (d := some 26) (v := .int .u8 (r : Int)) rfl (by kernel_rfl) (by kernel_rfl) (by kernel_rfl) (fun _ _ _ h => h) (fun oi ho => ?_) trivial ?_
        · obtain rfl := Option.some.inj ho
          exact Or.inl ⟨by rfl, fun wx hSw => by go_simp⟩
        simp only [Act.put, List.setIfInBounds_toArray, List.set_cons_zero, List.set_cons_succ]
        refine take_at (i := 6) (d := some 27) (v := B y2) rfl (by kernel_rfl) (by kernel_rfl) (by kernel_rfl) (fun _ _ _ h => h) (fun oi ho => ?_) trivial ?_
        · obtain rfl := Option.some.inj ho
          exact Or.inl ⟨by rfl, fun wx hSw => by go_simp⟩
        simp only [Act.put, List.setIfInBounds_toArray, List.set_cons_zero, List.set_cons_succ]
        refine ready_value (i := 7) (d := some 28) (v := .slice (some ⟨Wq.heap.size, 0, none⟩) 3 3) (w' := (Wq.alloc (.cells #[.int .u8 37, B y1, B y2] 5))) rfl (by kernel_rfl) (fun oi ho => ?_) trivial ?_
        · obtain rfl := Option.some.inj ho
          exact ⟨by rfl, by go_simp⟩
        simp only [Act.put, List.setIfInBounds_toArray, List.set_cons_zero, List.set_cons_succ]
        refine ready_value (i := 8) (d := some 29) (v := v8) (w' := W8) rfl (by kernel_rfl) (fun oi ho => ?_) trivial ?_
        · obtain rfl := Option.some.inj ho
          exact ⟨by rfl, exec_appendB (.tmp 21) (.tmp 28) rfl rfl rfl HR8.out⟩
        simp only [Act.put, List.setIfInBounds_toArray, List.set_cons_zero, List.set_cons_succ]
        refine take_at (i := 9) (d := some 0) (v := v8) rfl (by kernel_rfl) (by kernel_rfl) (by kernel_rfl) (fun _ _ _ h => h) (fun oi ho => ?_) trivial ?_
        · obtain rfl := Option.some.inj ho
          exact Or.inl ⟨by rfl, fun wx hSw => by go_simp⟩
        simp only [Act.put, List.setIfInBounds_toArray, List.set_cons_zero]
        refine wpAnyH_done (by kernel_rfl) ?_ _
        refine NoPanic.normal ?_
        clear hsh han hi1 hi2
        go_wp2
        exact ⟨⟨i + 1, by go_num, by omega, Lib.hid (by rw [HN.out]; exact H8.out)⟩, by simp [intOf]; omega⟩
end Go.Proofs.YtmklgjbfdaleiaaDoor
