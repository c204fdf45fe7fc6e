/- The landed right walked. (mkew5.py writes it.) Where the landed Bytes writes: slices of a row of bytes, what is copied into them and masked there. The landed Bytes walked. (mkew7.py writes it.) -/
import Derived.Test.YtlmolmmhkddpaaaEw4
import Derived.Test.YtlmolmmhkddpaaaEk
import Derived.Laws.CopyRow
namespace Go.Proofs.Ytlmolmmhkddpaaa
open Go.RowKit
attribute [local go_sem] store_one B_match B_store S_match S_store

theorem weql_key (K L : Key4) (w : World) : (binOp .eql 43 (.agg (kC K)) (.agg (kC L))).run Try.prog w = .ok (.bool (K.k0 == L.k0 && (K.k1 == L.k1 && (K.k2 == L.k2 && K.k3 == L.k3)))) w := by
  have := eqin_key 9998 K L w
  unfold kV at this
  rw [run_eql_struct, this]; rfl
theorem wgrd_key (op : BinOp) (f g : Key4) (x y : Operand) (w : World) : (eqGuard op 43 x y (.agg (kC f)) (.agg (kC g))).run Try.prog w = .ok () w := run_eqGuard_agg w op 43 x y _ _ (by kernel_rfl)
theorem wkey_dec (K L : Key4) : (K.k0 == L.k0 && (K.k1 == L.k1 && (K.k2 == L.k2 && K.k3 == L.k3))) = decide (K = L) := by
  obtain ⟨a, b, c, d⟩ := K
  obtain ⟨a', b', c', d'⟩ := L
  rw [Bool.eq_iff_iff]
  simp
set_option maxRecDepth 100000 in
set_option maxHeartbeats 1000000 in
theorem right_any (f : Frm) (w : World) : Calls Try.prog 26 #[frV f] w fun e w' => e = .returned (.bool (okFr f)) ∧ Below w.heap.size w w' := by
  obtain ⟨W1, hW1⟩ : ∃ W, W = w.alloc (.cells (frC f) 51) := ⟨_, rfl⟩
  have H1 : Hid (Below w.heap.size w W1) := Lib.hid (by rw [hW1]; exact (Below.refl _ _).alloc (Nat.le_refl _) _)
  have nk := fun x y w' => wgrd_key .eql f.key key0 x y w'
  have ek := fun w' => weql_key f.key key0 w'
  have eqk : ∀ w', (Op.equalIn 10000 43 (kV f.key) (kV key0)).run Try.prog w' = .ok (decide (f.key = key0)) w' := fun w' => by rw [← wkey_dec]; exact eqin_key 9998 f.key key0 w'
  rw [wkey_dec] at ek
  have hz : kC key0 = #[.int .u8 0, .int .u8 0, .int .u8 0, .int .u8 0] := rfl
  unfold kV at eqk
  rw [hz] at ek eqk nk
  unfold kC at ek eqk nk
  have hv : okFr f = (decide (0 ≤ f.rsv ∧ f.rsv ≤ 7 ∧ 0 ≤ f.op ∧ f.op ≤ 15) && (f.masked || decide (f.key = key0))) := rfl
  obtain ⟨bq, hbq⟩ : ∃ b, b = decide (f.key = key0) := ⟨_, rfl⟩
  rw [← hbq] at ek eqk hv
  clear hbq hz
  obtain ⟨fin, rsv, op, m, ⟨k0, k1, k2, k3⟩, d⟩ := f
  unfold frV
  unfold frC at hW1 ⊢
  dsimp only at *
  by_cases c0 : 0 ≤ rsv
  case neg =>
    have g0 : decide (0 ≤ rsv) = false := decide_eq_false (by omega)
    have h0 : decide (rsv ≥ 0) = false := decide_eq_false (by omega)
    have HV : Hid (okFr ⟨fin, rsv, op, m, ⟨k0, k1, k2, k3⟩, d⟩ = false) := Lib.hid (by rw [hv, decide_eq_false (by omega)]; rfl)
    clear hv nk ek eqk c0
    go_enter Try.func26, Try.ntmps26
    go_wp2
    go_ret
    rw [← hW1]
    exact ⟨by rw [HV.out]; rfl, H1.out⟩
  by_cases c1 : rsv ≤ 7
  case neg =>
    have g0 : decide (0 ≤ rsv) = true := decide_eq_true (by omega)
    have h0 : decide (rsv ≥ 0) = true := decide_eq_true (by omega)
    have g1 : decide (rsv ≤ 7) = false := decide_eq_false (by omega)
    have HV : Hid (okFr ⟨fin, rsv, op, m, ⟨k0, k1, k2, k3⟩, d⟩ = false) := Lib.hid (by rw [hv, decide_eq_false (by omega)]; rfl)
    clear hv nk ek eqk c0 c1
    go_enter Try.func26, Try.ntmps26
    go_wp2
    go_ret
    rw [← hW1]
    exact ⟨by rw [HV.out]; rfl, H1.out⟩
  by_cases c2 : 0 ≤ op
  case neg =>
    have g0 : decide (0 ≤ rsv) = true := decide_eq_true (by omega)
    have h0 : decide (rsv ≥ 0) = true := decide_eq_true (by omega)
    have g1 : decide (rsv ≤ 7) = true := decide_eq_true (by omega)
    have g2 : decide (0 ≤ op) = false := decide_eq_false (by omega)
    have h2 : decide (op ≥ 0) = false := decide_eq_false (by omega)
    have HV : Hid (okFr ⟨fin, rsv, op, m, ⟨k0, k1, k2, k3⟩, d⟩ = false) := Lib.hid (by rw [hv, decide_eq_false (by omega)]; rfl)
    clear hv nk ek eqk c0 c1 c2
    go_enter Try.func26, Try.ntmps26
    go_wp2
    go_ret
    rw [← hW1]
    exact ⟨by rw [HV.out]; rfl, H1.out⟩
  by_cases c3 : op ≤ 15
  case neg =>
    have g0 : decide (0 ≤ rsv) = true := decide_eq_true (by omega)
    have h0 : decide (rsv ≥ 0) = true := decide_eq_true (by omega)
    have g1 : decide (rsv ≤ 7) = true := decide_eq_true (by omega)
    have g2 : decide (0 ≤ op) = true := decide_eq_true (by omega)
    have h2 : decide (op ≥ 0) = true := decide_eq_true (by omega)
    have g3 : decide (op ≤ 15) = false := decide_eq_false (by omega)
    have HV : Hid (okFr ⟨fin, rsv, op, m, ⟨k0, k1, k2, k3⟩, d⟩ = false) := Lib.hid (by rw [hv, decide_eq_false (by omega)]; rfl)
    clear hv nk ek eqk c0 c1 c2 c3
    go_enter Try.func26, Try.ntmps26
    go_wp2
    go_ret
    rw [← hW1]
    exact ⟨by rw [HV.out]; rfl, H1.out⟩
  have g0 : decide (0 ≤ rsv) = true := decide_eq_true (by omega)
  have h0 : decide (rsv ≥ 0) = true := decide_eq_true (by omega)
  have g1 : decide (rsv ≤ 7) = true := decide_eq_true (by omega)
  have g2 : decide (0 ≤ op) = true := decide_eq_true (by omega)
  have h2 : decide (op ≥ 0) = true := decide_eq_true (by omega)
  have g3 : decide (op ≤ 15) = true := decide_eq_true (by omega)
  have hv2 : okFr ⟨fin, rsv, op, m, ⟨k0, k1, k2, k3⟩, d⟩ = (m || bq) := by rw [hv, decide_eq_true (by omega)]; rfl
  have HV := Lib.hid hv2
  clear hv hv2 c0 c1 c2 c3
  cases m
  · cases bq
    · go_enter Try.func26, Try.ntmps26
      go_wp2
      go_ret
      rw [← hW1]
      exact ⟨by rw [HV.out]; rfl, H1.out⟩
    · go_enter Try.func26, Try.ntmps26
      go_wp2
      go_ret
      rw [← hW1]
      exact ⟨by rw [HV.out]; rfl, H1.out⟩
  · clear nk ek eqk
    go_enter Try.func26, Try.ntmps26
    go_wp2
    go_ret
    rw [← hW1]
    exact ⟨by rw [HV.out]; rfl, H1.out⟩

theorem wslice_mid (g T l h : Nat) (hl : l ≤ h) (hh : h ≤ T) (W : World) : (Instr.slice 38 (.slice (some ⟨g, 0, none⟩) T T) (some (.int .i64 (l : Int))) (some (.int .i64 (h : Int))) none).run Try.prog W = .ok (.slice (some (if T = l then ⟨g, 0, none⟩ else ⟨g, l, none⟩)) (h - l) (T - l)) W := by
  have hadd : (⟨g, 0, none⟩ : Addr).add l = ⟨g, l, none⟩ := by rw [Addr.add_mid, Nat.zero_add]
  have hlT : l ≤ T := Nat.le_trans hl hh
  simp [Instr.slice, run_underlying Try.underlying38, Instr.sliceBounds, run_sliceBound, Result.andThen, hl, hh, hadd]
  split <;> rfl
theorem wslice_from (g T l : Nat) (hl : l ≤ T) (W : World) : (Instr.slice 38 (.slice (some ⟨g, 0, none⟩) T T) (some (.int .i64 (l : Int))) none none).run Try.prog W = .ok (.slice (some (if T = l then ⟨g, 0, none⟩ else ⟨g, l, none⟩)) (T - l) (T - l)) W := by
  have hadd : (⟨g, 0, none⟩ : Addr).add l = ⟨g, l, none⟩ := by rw [Addr.add_mid, Nat.zero_add]
  simp [Instr.slice, run_underlying Try.underlying38, Instr.sliceBounds, run_sliceBound, Result.andThen, hl, hadd]
  split <;> rfl
theorem wslice_arr (b o : Nat) (W : World) : (Instr.sliceAt 43 (.pointer (some ⟨b, o, none⟩)) none none none).run Try.prog W = .ok (.slice (some ⟨b, o, none⟩) 4 4) W := by
  have hadd : (⟨b, o, none⟩ : Addr).add 0 = ⟨b, o, none⟩ := by rw [Addr.add_mid, Nat.add_zero]
  go_simp
theorem mrow_of {w : World} {g : Nat} {L : List UInt8} {t : TypeId} (h : Row w g (bcells L) t) : MRow w g L t (0, 0) := ⟨h, .inl rfl⟩
theorem mrow_setRow {w : World} {g : Nat} {L L' : List UInt8} {t : TypeId} (h : MRow w g L t (0, 0)) {cs : Array Value} (e : cs = bcells L') : MRow (w.setRow g cs) g L' t (0, 0) := by
  subst e
  exact ⟨setRow_heap w g _ _ t _ h.1, .inl rfl⟩
theorem wmake_row (T : Nat) (hT : T ≤ 1000000) (W : World) : (Instr.makeSlice 38 (.int .i64 (T : Int)) (.int .i64 (T : Int))).run Try.prog W = .ok (.slice (some ⟨W.heap.size, 0, none⟩) T T) (W.alloc (.cells (bcells (List.replicate T 0)) 5)) := by
  obtain ⟨i, hi⟩ : ∃ i, (Try.prog.info? 5) = some i := Option.isSome_iff_exists.1 (by kernel_rfl)
  have h1 : (Try.prog.info? 5).map (fun t => (t.size, t.bytes)) = some (1, 1) := by kernel_rfl
  have h2 : (Try.prog.info? 5).map (fun t => t.zero) = some (some (.int .u8 0)) := by kernel_rfl
  rw [hi] at h1 h2
  simp only [Option.map_some, Option.some.injEq, Prod.mk.injEq] at h1 h2
  have hr := run_make (P := Try.prog) W 38 5 i (.int .u8 0) Try.underlying38 hi h2 .i64 .i64 T T (by omega) (by omega) (by rw [h1.2]; omega) (by omega)
  rw [h1.1, Nat.mul_one, Int.toNat_natCast] at hr
  have hc : madeCells (Value.int .u8 0).cells T = bcells (List.replicate T 0) := by
    apply Array.ext
    · rw [bcells_size, List.length_replicate]; simp [madeCells]
    · intro j h1 h2
      have h3 : j < T := by rw [bcells_size, List.length_replicate] at h2; exact h2
      have e1 : (madeCells (Value.int .u8 0).cells T)[j]? = some (.int .u8 0) := by
        unfold madeCells
        rw [Array.getElem?_map, Array.getElem?_range, if_pos h3]
        simp [Value.cells, Nat.mod_one]
      have e2 : (bcells (List.replicate T 0))[j]? = some (.int .u8 0) := by
        rw [bcells_get _ j (by rw [List.length_replicate]; exact h3), List.getElem?_replicate, if_pos h3]; rfl
      rw [Array.getElem?_eq_getElem h1] at e1
      rw [Array.getElem?_eq_getElem h2] at e2
      exact Option.some.inj (e1.trans e2.symm)
  rw [hc] at hr
  exact hr
/-- The number, written behind the first two bytes. -/
theorem put_at {W : World} {g N T c : Nat} {a b : UInt8} {Z R : List UInt8} (h : MRow W g (a :: b :: (Z ++ R)) 5 (0, 0)) (hz : Z.length ≤ 8) (hT : 2 + Z.length ≤ T) {AD : Addr} (hAD : AD = if T = 2 then ⟨g, 0, none⟩ else ⟨g, 2, none⟩) :
    Calls Try.prog 30 #[.slice (some AD) Z.length c, .int .u64 (N : Int)] W fun e w' => e = .returned (.tuple #[]) ∧ MRow w' g (a :: b :: (be Z.length N ++ R)) 5 (0, 0) ∧ Keeps g W w' := by
  rcases Z with _ | ⟨z, Z⟩
  · refine (put0_any (some AD) c N W).mono ?_
    rintro e w' ⟨rfl, rfl⟩
    exact ⟨rfl, h, .refl _ _⟩
  · obtain ⟨k, hk⟩ : ∃ k, k = (z :: Z).length := ⟨_, rfl⟩
    have hk1 : 1 ≤ k := by rw [hk, List.length_cons]; omega
    rw [if_neg (by omega)] at hAD
    rw [hAD, ← hk]
    refine (put_any N g 2 k c (by omega) _ 5 (0, 0) W h (by rw [List.length_cons, List.length_cons, List.length_append, ← hk]; omega)).mono ?_
    rintro e w' ⟨rfl, hr, hK⟩
    refine ⟨rfl, ?_, hK⟩
    have : putL (a :: b :: (z :: Z ++ R)) 2 k N k = a :: b :: (be k N ++ R) := by
      unfold putL
      rw [Nat.sub_self, Nat.add_zero, Nat.add_comm 2 k, List.drop_succ_cons, List.drop_succ_cons, List.take_succ_cons, List.take_succ_cons, List.take_zero, hk, List.drop_left]
      rfl
    rw [this] at hr
    exact hr
/-- The data, copied to the end. -/
theorem copy_data {W : World} {g N : Nat} {H Z d : List UInt8} (h : MRow W g (H ++ Z) 5 (0, 0)) (hz : Z.length = N) (hd : d.length = N) {AD : Addr} (hAD : AD = if H.length + N = H.length then ⟨g, 0, none⟩ else ⟨g, H.length, none⟩) (ty : TypeId) :
    ∃ W', (Builtin.copy_ #[38, 9] ty #[.slice (some AD) N N, S d]).run Try.prog W = .ok (goInt N) W' ∧ MRow W' g (H ++ d) 5 (0, 0) ∧ Keeps g W W' := by
  have hb : ∀ l : List UInt8, (bcells l).toList = l.map B := fun l => by unfold bcells; exact List.toList_toArray
  by_cases h0 : N = 0
  · subst h0
    obtain rfl : Z = [] := List.length_eq_zero_iff.1 hz
    obtain rfl : d = [] := List.length_eq_zero_iff.1 hd
    rw [if_pos (by omega)] at hAD
    subst hAD
    exact ⟨_, run_copy_str (P := Try.prog) Try.underlying38 wsize5 W ty g 0 0 0 _ 5 [] 0 rfl h.1 (by omega), mrow_setRow h (by rw [hb]; simp [bcells]), .setRow _ _⟩
  · rw [if_neg (by omega)] at hAD
    subst hAD
    have hr := run_copy_str (P := Try.prog) (td := 38) (e := 5) (ts := 9) Try.underlying38 wsize5 W ty g H.length N N _ 5 d N (by rw [hd]; exact (Nat.min_self _).symm) h.1 (by rw [bcells_size, List.length_append, hz]; omega)
    refine ⟨_, hr, mrow_setRow h ?_, .setRow _ _⟩
    rw [hb, List.map_append, ← hd, List.take_length]
    have e1 : (H.map B ++ Z.map B).take H.length = H.map B := by
      rw [List.take_append_of_le_length (by rw [List.length_map]; exact Nat.le_refl _), List.take_of_length_le (by rw [List.length_map]; exact Nat.le_refl _)]
    have e2 : (H.map B ++ Z.map B).drop (H.length + d.length) = [] := List.drop_eq_nil_iff.2 (by rw [List.length_append, List.length_map, List.length_map, hz, hd]; omega)
    rw [e1, e2, List.append_nil]
    unfold bcells
    rw [List.map_append]
/-- The key, copied ahead of the data. -/
theorem copy_key {W : World} {g b N c : Nat} {H Z d : List UInt8} {k0 k1 k2 k3 : UInt8} (h : MRow W g (H ++ (Z ++ d)) 5 (0, 0)) (hz : Z.length = 4) (h4 : 4 ≤ N)
    (c0 : W.cell? ⟨b, 4, none⟩ = some (B k0)) (c1 : W.cell? ⟨b, 5, none⟩ = some (B k1)) (c2 : W.cell? ⟨b, 6, none⟩ = some (B k2)) (c3 : W.cell? ⟨b, 7, none⟩ = some (B k3)) (ty : TypeId) :
    ∃ W', (Builtin.copy_ #[38, 38] ty #[.slice (some ⟨g, H.length, none⟩) N c, .slice (some ⟨b, 4, none⟩) 4 4]).run Try.prog W = .ok (goInt 4) W' ∧ MRow W' g (H ++ ([k0, k1, k2, k3] ++ d)) 5 (0, 0) ∧ Keeps g W W' := by
  have hb : ∀ l : List UInt8, (bcells l).toList = l.map B := fun l => by unfold bcells; exact List.toList_toArray
  have hr := run_copy_row (P := Try.prog) W 38 38 ty 5 g H.length N c ⟨b, 4, none⟩ 4 4 _ 5 [B k0, B k1, B k2, B k3] Try.underlying38 (by kernel_rfl) h.1 (by show 4 = min 4 N; omega)
    (fun j v hj => by
      rw [Addr.add_mid]
      rcases j with _ | _ | _ | _ | j
      · obtain rfl := Option.some.inj hj; exact c0
      · obtain rfl := Option.some.inj hj; exact c1
      · obtain rfl := Option.some.inj hj; exact c2
      · obtain rfl := Option.some.inj hj; exact c3
      · simp at hj) (by rw [bcells_size, List.length_append, List.length_append, hz]; show H.length + 4 ≤ _; omega)
    (fun v hv => by
      simp only [List.mem_cons, List.not_mem_nil, or_false] at hv
      rcases hv with rfl | rfl | rfl | rfl <;> rfl)
  refine ⟨_, hr, mrow_setRow h ?_, .setRow _ _⟩
  rw [hb, List.map_append, List.map_append]
  have e1 : (H.map B ++ (Z.map B ++ d.map B)).take H.length = H.map B := by
    rw [List.take_append_of_le_length (by rw [List.length_map]; exact Nat.le_refl _), List.take_of_length_le (by rw [List.length_map]; exact Nat.le_refl _)]
  have e2 : (H.map B ++ (Z.map B ++ d.map B)).drop (H.length + [B k0, B k1, B k2, B k3].length) = d.map B := by
    rw [← List.append_assoc, List.drop_append_of_le_length (by rw [List.length_append, List.length_map, List.length_map, hz]; exact Nat.le_refl _), List.drop_of_length_le (by rw [List.length_append, List.length_map, List.length_map, hz]; exact Nat.le_refl _), List.nil_append]
  rw [e1, e2]
  unfold bcells
  rw [List.map_append, List.map_append, List.append_assoc]
  rfl
/-- The data, masked where they stand. -/
theorem mask_at {W : World} {g N c : Nat} {H d : List UInt8} (K : Key4) (h : MRow W g (H ++ d) 5 (0, 0)) (hd : d.length = N) (hN : N ≤ 1000000) {AD : Addr} (hAD : AD = if H.length + N = H.length then ⟨g, 0, none⟩ else ⟨g, H.length, none⟩) :
    Calls Try.prog 32 #[kV K, .int .i64 0, .slice (some AD) N c] W fun e w' => e = .returned (.tuple #[]) ∧ MRow w' g (H ++ maskN K 0 d) 5 (0, 0) ∧ Keeps g W w' := by
  by_cases h0 : N = 0
  · subst h0
    obtain rfl : d = [] := List.length_eq_zero_iff.1 hd
    refine (mask0_any K 0 (some AD) c W).mono ?_
    rintro e w' ⟨rfl, hB⟩
    exact ⟨rfl, h.below hB, .of_below hB⟩
  · rw [if_neg (by omega)] at hAD
    subst hAD
    refine (mask_any K 0 g H.length N c _ 5 (0, 0) W h (by rw [List.length_append, hd]; exact Nat.le_refl _) hN).mono ?_
    rintro e w' ⟨rfl, hr, hK⟩
    refine ⟨rfl, ?_, hK⟩
    have : mskL (H ++ d) H.length K 0 N = H ++ maskN K 0 d := by
      unfold mskL
      rw [List.take_left, List.drop_left, ← hd, List.take_length, List.drop_of_length_le (by rw [List.length_append]; exact Nat.le_refl _), List.append_nil]
    rw [this] at hr
    exact hr

theorem wB_or (t : TypeId) (x y : UInt8) : binOp .or t (B x) (B y) = pure (B (x ||| y)) := by
  simp only [B, binOp, Op.intBits, ne_eq, not_true_eq_false, ↓reduceIte]
  show pure (Value.int .u8 (IntKind.u8.wrap ((BitVec.ofInt 8 (x.toNat : Int) ||| BitVec.ofInt 8 (y.toNat : Int)).toNat : Int))) = _
  rw [ofInt_byte, ofInt_byte]
  have h : ((x ||| y).toNat : Int) = ((x.toBitVec ||| y.toBitVec).toNat : Int) := rfl
  rw [← h, IntKind.wrap_u8]
  congr 2
  have := (x ||| y).toNat_lt
  omega
theorem wshl4 (t : TypeId) (R : Nat) (h : R ≤ 7) : binOp .shl t (.int .i64 (R : Int)) (.int .u64 4) = pure (.int .i64 ((16 * R : Nat) : Int)) := by
  simp only [binOp, Op.shift]
  rw [if_neg (by omega)]
  have hm : min (4 : Int).toNat IntKind.i64.bits = 4 := rfl
  rw [hm]
  show pure (Value.int .i64 (IntKind.i64.wrap ((R : Int) * 16))) = _
  have : IntKind.i64.wrap ((R : Int) * 16) = ((16 * R : Nat) : Int) := by rw [IntKind.wrap_i64]; omega
  rw [this]
theorem wor4 (t : TypeId) (R O : Nat) (h : R ≤ 7) (h2 : O ≤ 15) : binOp .or t (.int .i64 ((16 * R : Nat) : Int)) (.int .i64 (O : Int)) = pure (.int .i64 ((16 * R + O : Nat) : Int)) := by
  rw [wor_bits, bits_join .i64 62 (by decide) wraps_i64 4 _ _ (by omega) (by omega) (by omega) (by omega) (by omega) (by omega)]
  rfl
set_option maxRecDepth 100000 in
set_option maxHeartbeats 1000000 in
theorem wbytes_no (f : Frm) (hok : okFr f = false) (w : World) : Calls Try.prog 20 #[frV f] w fun e w' => e = .returned (bytesV f) ∧ Below w.heap.size w w' := by
  obtain ⟨W1, hW1⟩ : ∃ W, W = w.alloc (.cells (frC f) 51) := ⟨_, rfl⟩
  have H1 : Hid (Below w.heap.size w W1) := Lib.hid (by rw [hW1]; exact (Below.refl _ _).alloc (Nat.le_refl _) _)
  have hR := right_any f W1
  rw [hok] at hR
  have HV : Hid (bytesV f = .tuple #[.string ⟨#[]⟩, .int .i64 1]) := Lib.hid (by unfold bytesV; rw [hok]; rfl)
  clear hok
  obtain ⟨fin, rsv, op, m, ⟨k0, k1, k2, k3⟩, data⟩ := f
  unfold frV at hR ⊢
  unfold frC at hW1 hR ⊢
  dsimp only at *
  rw [hW1] at hR
  have HR := Lib.hid hR
  clear hR
  go_enter Try.func20, Try.ntmps20
  go_wp2_with fail
  refine HR.out.mono ?_
  rintro e W2 ⟨rfl, hB2⟩
  rw [← hW1] at hB2
  have HE := Lib.hid (H1.out.trans (hB2.mono H1.out.size))
  clear hB2 hW1 HR
  go_wp2
  go_ret2
  exact ⟨by rw [HV.out]; rfl, HE.out⟩
/-- A frame and its bytes so far, each in a block of its own. -/
structure BySt (w : World) (fc : Array Value) (g : Nat) (L : List UInt8) (W : World) : Prop where
  frm : Row W w.heap.size fc 51
  row : MRow W g L 5 (0, 0)
  below : Below w.heap.size w W
  apart : w.heap.size < g
theorem BySt.drew {w : World} {fc : Array Value} {g : Nat} {L : List UInt8} {W : World} (h : BySt w fc g L W) : BySt w fc g L W.drew := ⟨h.frm.drew, h.row.drew, h.below.trans ((below_drewN W 1).mono h.below.size), h.apart⟩
theorem BySt.next {w : World} {fc : Array Value} {g : Nat} {L L' : List UInt8} {W W' : World} (h : BySt w fc g L W) (hr : MRow W' g L' 5 (0, 0)) (hk : Keeps g W W') : BySt w fc g L' W' := ⟨h.frm.keeps hk (by have := h.apart; omega), hr, h.below.trans (hk.below h.below.size (Nat.le_of_lt h.apart)), h.apart⟩
theorem BySt.set {w : World} {fc : Array Value} {g : Nat} {L : List UInt8} {W : World} (h : BySt w fc g L W) (p : Nat) (y : UInt8) {L' : List UInt8} (e : L' = L.set p y) : BySt w fc g L' (W.setCell ⟨g, p, none⟩ (B y)) := h.next (h.row.set p y e) (.setCell _ _ _)
theorem rep_parts (wd kk N : Nat) : List.replicate (2 + wd + kk + N) (0 : UInt8) = 0 :: 0 :: (List.replicate wd 0 ++ (List.replicate kk 0 ++ List.replicate N 0)) := by
  rw [List.replicate_append_replicate, List.replicate_append_replicate, show 2 + wd + kk + N = wd + (kk + N) + 1 + 1 by omega, List.replicate_succ, List.replicate_succ]
set_option maxRecDepth 100000 in
set_option maxHeartbeats 4000000 in
theorem wbytes_ok (f : Frm) (hok : okFr f = true) (hl : f.data.length ≤ 200000) (w : World) : Calls Try.prog 20 #[frV f] w fun e w' => e = .returned (bytesV f) ∧ Below w.heap.size w w' := by
  obtain ⟨W1, hW1⟩ : ∃ W, W = w.alloc (.cells (frC f) 51) := ⟨_, rfl⟩
  have H1 : Hid (Row W1 w.heap.size (frC f) 51 ∧ Below w.heap.size w W1) := Lib.hid (by rw [hW1]; exact ⟨row_new _ _ _, (Below.refl _ _).alloc (Nat.le_refl _) _⟩)
  have hR := right_any f W1
  rw [hok] at hR
  have hfb := firstB_or f hok
  have hlb := lenB_or f.masked f.data.length
  have hv0 : bytesV f = .tuple #[S (bytesF f), .int .i64 0] := by unfold bytesV; rw [hok]; rfl
  obtain ⟨p1, p2, p3, p4, p5⟩ := okFr_parts hok
  clear hok
  obtain ⟨fin, rsv, op, m, ⟨k0, k1, k2, k3⟩, data⟩ := f
  dsimp only at p1 p2 p3 p4 p5 hl
  obtain ⟨R, rfl⟩ : ∃ n : Nat, rsv = (n : Int) := ⟨rsv.toNat, by omega⟩
  obtain ⟨O, rfl⟩ : ∃ n : Nat, op = (n : Int) := ⟨op.toNat, by omega⟩
  obtain ⟨N, hN⟩ : ∃ N, N = data.length := ⟨_, rfl⟩
  have hNl : N ≤ 200000 := by rw [hN]; exact hl
  have hlN : ∀ w', (Builtin.len_ #[9] 3 #[S data]).run Try.prog w' = .ok (.int .i64 (N : Int)) w' := by rw [hN]; exact run_len_S (P := Try.prog) Try.underlying9 3 data
  have hcu : ∀ w', (convert 3 56 (.int .i64 (N : Int))).run Try.prog w' = .ok (.int .u64 (N : Int)) w' := conv_iu Try.underlying56 Try.underlying3 N (by omega)
  obtain ⟨FM, hFM⟩ : ∃ x, x = leastB N := ⟨_, rfl⟩
  have HLe : Hid (∀ W, Calls Try.prog 27 #[.int .u64 (N : Int)] W fun e w' => e = .returned (B FM) ∧ w' = W) := Lib.hid fun W => by rw [hFM]; exact least_any N (by omega) W
  obtain ⟨wd, hwd⟩ : ∃ x, x = widN FM := ⟨_, rfl⟩
  have h3 := wid_three FM
  rw [← hwd] at h3
  obtain ⟨kk, hkk⟩ : ∃ x, x = if m then 4 else 0 := ⟨_, rfl⟩
  have hk4 : kk ≤ 4 := by rw [hkk]; cases m <;> decide
  obtain ⟨n, hn⟩ : ∃ x, x = 2 + wd + kk := ⟨_, rfl⟩
  have HHs : Hid (∀ W, Calls Try.prog 28 #[B FM, .bool m] W fun e w' => e = .returned (.int .i64 (n : Int)) ∧ w' = W) := Lib.hid fun W => by
    have := headSize_any FM m W
    unfold sizeN at this
    rw [← hwd, ← hkk, ← hn] at this
    exact this
  have HWd : Hid (∀ W, Calls Try.prog 31 #[B FM] W fun e w' => e = .returned (.int .i64 (wd : Int)) ∧ w' = W) := Lib.hid fun W => by rw [hwd]; exact width_any FM W
  obtain ⟨T, hT⟩ : ∃ x, x = n + N := ⟨_, rfl⟩
  have m1 : IntKind.i64.wrap ((n : Int) + (N : Int)) = (T : Int) := by rw [IntKind.wrap_i64]; omega
  obtain ⟨L0, hL0⟩ : ∃ L, L = List.replicate T (0 : UInt8) := ⟨_, rfl⟩
  have hmk : ∀ W, (Instr.makeSlice 38 (.int .i64 (T : Int)) (.int .i64 (T : Int))).run Try.prog W = .ok (.slice (some ⟨W.heap.size, 0, none⟩) T T) (W.alloc (.cells (bcells L0) 5)) := fun W => by rw [hL0]; exact wmake_row T (by omega) W
  obtain ⟨Zw, hZw⟩ : ∃ Z, Z = List.replicate wd (0 : UInt8) := ⟨_, rfl⟩
  obtain ⟨Zk, hZk⟩ : ∃ Z, Z = List.replicate kk (0 : UInt8) := ⟨_, rfl⟩
  obtain ⟨Zn, hZn⟩ : ∃ Z, Z = List.replicate N (0 : UInt8) := ⟨_, rfl⟩
  have hL : L0 = 0 :: 0 :: (Zw ++ (Zk ++ Zn)) := by rw [hL0, hT, hn, hZw, hZk, hZn]; exact rep_parts wd kk N
  have lw : Zw.length = wd := by rw [hZw, List.length_replicate]
  have lk : Zk.length = kk := by rw [hZk, List.length_replicate]
  have ln : Zn.length = N := by rw [hZn, List.length_replicate]
  obtain ⟨Y, hY⟩ : ∃ y, y = UInt8.ofNat (16 * R + O) := ⟨_, rfl⟩
  obtain ⟨X, hX⟩ : ∃ x, x = flagB fin ||| Y := ⟨_, rfl⟩
  obtain ⟨X2, hX2⟩ : ∃ x, x = flagB m ||| FM := ⟨_, rfl⟩
  obtain ⟨HD, hHD⟩ : ∃ x, x = X :: X2 :: be wd N := ⟨_, rfl⟩
  have HB : Hid (bytesF ⟨fin, (R : Int), (O : Int), m, ⟨k0, k1, k2, k3⟩, data⟩ = HD ++ ((if m then [k0, k1, k2, k3] else []) ++ maskN ⟨k0, k1, k2, k3⟩ 0 data)) := Lib.hid (by
    unfold bytesF headB
    rw [hfb, hlb]
    dsimp only
    rw [← hN, ← hFM, ← hwd, ← flagB_fin, ← flagB_fin, ← hX2, Int.toNat_natCast, Int.toNat_natCast, ← hY, ← hX, hHD]
    unfold keyB
    simp)
  have hm0 : m = false → maskN ⟨k0, k1, k2, k3⟩ 0 data = data := fun e => by rw [p5 e, mask_zero]
  have HM0 := Lib.hid hm0
  have HLW := Lib.hid (And.intro hL (And.intro lw (And.intro lk (And.intro ln (And.intro hHD (And.intro hN (And.intro hn (And.intro hT (And.intro h3 hkk)))))))))
  have o1 := wshl4 3 R (by omega)
  have o2 := wor4 3 R O (by omega) (by omega)
  obtain ⟨A1, hA1⟩ : ∃ x, x = 16 * R := ⟨_, rfl⟩
  rw [← hA1] at o1 o2
  obtain ⟨A2, hA2⟩ : ∃ x, x = A1 + O := ⟨_, rfl⟩
  rw [← hA2] at o2
  have o3 : ∀ w', (convert 3 5 (.int .i64 (A2 : Int))).run Try.prog w' = .ok (B Y) w' := fun w' => by rw [hY, hA2, hA1] ; exact conv_num Try.underlying5 Try.underlying3 _ w'
  have o4 : binOp .or 5 (B (flagB fin)) (B Y) = pure (B X) := by rw [hX]; exact wB_or _ _ _
  have o5 : binOp .or 5 (B (flagB m)) (B FM) = pure (B X2) := by rw [hX2]; exact wB_or _ _ _
  have HF1 : Hid (∀ W, Calls Try.prog 29 #[.bool fin] W fun e w' => e = .returned (B (flagB fin)) ∧ w' = W) := Lib.hid fun W => flagIf_any fin W
  have HF2 : Hid (∀ W, Calls Try.prog 29 #[.bool m] W fun e w' => e = .returned (B (flagB m)) ∧ w' = W) := Lib.hid fun W => flagIf_any m W
  obtain ⟨fb, hfb2⟩ : ∃ x, x = flagB fin := ⟨_, rfl⟩
  obtain ⟨fm, hfm2⟩ : ∃ x, x = flagB m := ⟨_, rfl⟩
  rw [← hfb2] at o4 HF1
  rw [← hfm2] at o5 HF2
  have m2 : IntKind.i64.wrap (2 + (wd : Int)) = ((2 + wd : Nat) : Int) := by rw [IntKind.wrap_i64]; omega
  obtain ⟨n2, hn2⟩ : ∃ x, x = 2 + wd := ⟨_, rfl⟩
  rw [← hn2] at m2
  have hv : bytesV ⟨fin, (R : Int), (O : Int), m, ⟨k0, k1, k2, k3⟩, data⟩ = .tuple #[S (HD ++ ((if m then [k0, k1, k2, k3] else []) ++ maskN ⟨k0, k1, k2, k3⟩ 0 data)), .int .i64 0] := by rw [hv0, HB.out]
  have HV := Lib.hid hv
  clear hv hv0 hfb hlb hfm2 hfb2 p1 p2 p3 p4 p5 hFM hwd hL0 hZw hZk hZn hY hX hX2 hA1 hA2 hm0 hN HB
  have hfc : frC ⟨fin, (R : Int), (O : Int), m, ⟨k0, k1, k2, k3⟩, data⟩ = #[.bool fin, .int .i64 (R : Int), .int .i64 (O : Int), .bool m, B k0, B k1, B k2, B k3, S data] := rfl
  unfold frV at hR ⊢
  rw [hfc] at hW1 hR H1 ⊢
  clear hfc
  obtain ⟨fc, hfcc⟩ : ∃ c : Array Value, c = #[.bool fin, .int .i64 (R : Int), .int .i64 (O : Int), .bool m, B k0, B k1, B k2, B k3, S data] := ⟨_, rfl⟩
  have HCE : Hid (∀ W, Row W w.heap.size fc 51 → W.cell? ⟨w.heap.size, 0, none⟩ = some (.bool fin) ∧ W.cell? ⟨w.heap.size, 1, none⟩ = some (.int .i64 (R : Int)) ∧ W.cell? ⟨w.heap.size, 2, none⟩ = some (.int .i64 (O : Int)) ∧ W.cell? ⟨w.heap.size, 3, none⟩ = some (.bool m) ∧
      W.cell? ⟨w.heap.size, 4, none⟩ = some (B k0) ∧ W.cell? ⟨w.heap.size, 5, none⟩ = some (B k1) ∧ W.cell? ⟨w.heap.size, 6, none⟩ = some (B k2) ∧ W.cell? ⟨w.heap.size, 7, none⟩ = some (B k3) ∧ W.cell? ⟨w.heap.size, 8, none⟩ = some (S data)) := Lib.hid fun W h => by
    rw [hfcc] at h
    exact ⟨cell_of_row W _ 0 _ _ (0, 0) h, cell_of_row W _ 1 _ _ (0, 0) h, cell_of_row W _ 2 _ _ (0, 0) h, cell_of_row W _ 3 _ _ (0, 0) h, cell_of_row W _ 4 _ _ (0, 0) h, cell_of_row W _ 5 _ _ (0, 0) h, cell_of_row W _ 6 _ _ (0, 0) h, cell_of_row W _ 7 _ _ (0, 0) h, cell_of_row W _ 8 _ _ (0, 0) h⟩
  rw [← hfcc] at H1
  clear hfcc
  rw [hW1] at hR
  have HR := Lib.hid hR
  have Hn := Lib.hid (And.intro hn (And.intro hT (And.intro hn2 (And.intro hk4 hNl))))
  clear hR hn hT hn2 hL lw lk ln hHD hkk h3 hk4 hl hNl
  go_enter Try.func20, Try.ntmps20
  go_wp2_with fail
  refine HR.out.mono ?_
  rintro e W2 ⟨rfl, hB2⟩
  rw [← hW1] at hB2
  have hr2 := H1.out.1.below hB2 H1.out.1.lt
  have hb2 := H1.out.2.trans (hB2.mono H1.out.2.size)
  have H2 := Lib.hid (And.intro hr2 hb2)
  obtain ⟨c0, c1, c2, c3, c4, c5, c6, c7, c8⟩ := HCE.out W2 hr2
  clear hr2 hb2 hB2 hW1 HR H1 c0 c1 c2 c4 c5 c6 c7
  go_wp2_with fail
  refine (HLe.out W2).mono ?_
  rintro e W' ⟨rfl, hw⟩
  rw [hw]; clear hw HLe
  go_wp2_with fail
  refine (HHs.out W2).mono ?_
  rintro e W' ⟨rfl, hw⟩
  rw [hw]; clear hw HHs
  go_wp2_with fail
  clear c3 c8 hcu hlN m1 hmk
  obtain ⟨g, hg⟩ : ∃ g, g = W2.heap.size := ⟨_, rfl⟩
  obtain ⟨W6, hW6⟩ : ∃ W, W = W2.alloc (.cells (bcells L0) 5) := ⟨_, rfl⟩
  have H6 : Hid (BySt w fc g L0 W6) := Lib.hid (by rw [hW6, hg]; exact ⟨H2.out.1.alloc _, mrow_of (row_new _ _ _), H2.out.2.alloc H2.out.2.size _, H2.out.1.lt⟩)
  rw [← hW6, ← hg]
  clear hW6 hg H2
  have i0 : ∀ W, (Instr.indexAt 38 (.slice (some ⟨g, 0, none⟩) T T) (.int .i64 0)).run Try.prog W = .ok (.pointer (some ⟨g, 0, none⟩)) W := widx_byte g 0 T T 0 (by have := Hn.out; omega) 0 rfl
  have i1 : ∀ W, (Instr.indexAt 38 (.slice (some ⟨g, 0, none⟩) T T) (.int .i64 1)).run Try.prog W = .ok (.pointer (some ⟨g, 1, none⟩)) W := widx_byte g 0 T T 1 (by have := Hn.out; omega) 1 rfl
  obtain ⟨Wq, hWq⟩ : ∃ W, W = W6.drew := ⟨_, rfl⟩
  have HQ : Hid (BySt w fc g L0 Wq) := Lib.hid (by rw [hWq]; exact H6.out.drew)
  obtain ⟨W7, hW7⟩ : ∃ W, W = Wq.setCell ⟨g, 0, none⟩ (B X) := ⟨_, rfl⟩
  have H7 : Hid (BySt w fc g (X :: 0 :: (Zw ++ (Zk ++ Zn))) W7) := Lib.hid (by rw [hW7]; exact HQ.out.set 0 X (by rw [HLW.out.1]; rfl))
  have hSf : Hid (∀ W L, BySt w fc g L W → W.cell? ⟨w.heap.size, 0, none⟩ = some (.bool fin) ∧ W.cell? ⟨w.heap.size, 1, none⟩ = some (.int .i64 (R : Int)) ∧ W.cell? ⟨w.heap.size, 2, none⟩ = some (.int .i64 (O : Int))) := Lib.hid fun W L h => by
    obtain ⟨c0, c1, c2, -⟩ := HCE.out W h.frm
    exact ⟨c0, c1, c2⟩
  have HSQ := Lib.hid (hSf.out _ _ HQ.out)
  have HS7 := Lib.hid (hSf.out _ _ H7.out)
  have q0 : Wq.cell? ⟨g, 0, none⟩ = some (B 0) := HQ.out.row.cell (by rw [HLW.out.1]; rfl)
  have qf : Wq.frozen? ⟨g, 0, none⟩ = false := HQ.out.row.frozen (by rw [HLW.out.1]; exact Nat.succ_pos _)
  refine wp_region_noPanic ?_
  refine wp_region_held_drew (S := fun wx => wx.cell? ⟨w.heap.size, 0, none⟩ = some (.bool fin) ∧ wx.cell? ⟨w.heap.size, 1, none⟩ = some (.int .i64 (R : Int)) ∧ wx.cell? ⟨w.heap.size, 2, none⟩ = some (.int .i64 (O : Int))) (by kernel_rfl) (hSf.out _ _ H6.out.drew) (fun _ => ?_)
  rw [← hWq]
  clear hWq H6
  refine take_at (i := 0) (d := some 27) (v := .slice (some ⟨g, 0, none⟩) T T) rfl (by kernel_rfl) (by kernel_rfl) (by kernel_rfl) (fun _ _ _ h => h) (fun oi ho => ?_) HSQ.out ?_
  · obtain rfl := Option.some.inj ho
    exact Or.inl ⟨by rfl, fun wx ⟨u0, u1, u2⟩ => by go_simp⟩
  simp only [Act.put, List.setIfInBounds_toArray, List.set_cons_zero, List.set_cons_succ]
  refine take_at (i := 1) (d := some 28) (v := .pointer (some ⟨w.heap.size, 0, none⟩)) rfl (by kernel_rfl) (by kernel_rfl) (by kernel_rfl) (fun _ _ _ h => h) (fun oi ho => ?_) HSQ.out ?_
  · obtain rfl := Option.some.inj ho
    exact Or.inl ⟨by rfl, fun wx ⟨u0, u1, u2⟩ => by go_simp⟩
  simp only [Act.put, List.setIfInBounds_toArray, List.set_cons_zero, List.set_cons_succ]
  refine take_at (i := 2) (d := some 29) (v := .bool fin) rfl (by kernel_rfl) (by kernel_rfl) (by kernel_rfl) (fun _ _ _ h => h) (fun oi ho => ?_) HSQ.out ?_
  · obtain rfl := Option.some.inj ho
    exact Or.inl ⟨by rfl, fun wx ⟨u0, u1, u2⟩ => by go_simp⟩
  simp only [Act.put, List.setIfInBounds_toArray, List.set_cons_zero, List.set_cons_succ]
  refine take_at (i := 4) (d := some 31) (v := .pointer (some ⟨w.heap.size, 1, none⟩)) rfl (by kernel_rfl) (by kernel_rfl) (by kernel_rfl) (fun _ _ _ h => h) (fun oi ho => ?_) HSQ.out ?_
  · obtain rfl := Option.some.inj ho
    exact Or.inl ⟨by rfl, fun wx ⟨u0, u1, u2⟩ => by go_simp⟩
  simp only [Act.put, List.setIfInBounds_toArray, List.set_cons_zero, List.set_cons_succ]
  refine take_at (i := 5) (d := some 32) (v := .int .i64 (R : Int)) rfl (by kernel_rfl) (by kernel_rfl) (by kernel_rfl) (fun _ _ _ h => h) (fun oi ho => ?_) HSQ.out ?_
  · obtain rfl := Option.some.inj ho
    exact Or.inl ⟨by rfl, fun wx ⟨u0, u1, u2⟩ => by go_simp⟩
  simp only [Act.put, List.setIfInBounds_toArray, List.set_cons_zero, List.set_cons_succ]
  refine take_at (i := 6) (d := some 33) (v := .int .i64 (A1 : Int)) rfl (by kernel_rfl) (by kernel_rfl) (by kernel_rfl) (fun _ _ _ h => h) (fun oi ho => ?_) HSQ.out ?_
  · obtain rfl := Option.some.inj ho
    exact Or.inl ⟨by rfl, fun wx ⟨u0, u1, u2⟩ => by go_simp⟩
  simp only [Act.put, List.setIfInBounds_toArray, List.set_cons_zero, List.set_cons_succ]
  refine take_at (i := 7) (d := some 34) (v := .pointer (some ⟨w.heap.size, 2, none⟩)) rfl (by kernel_rfl) (by kernel_rfl) (by kernel_rfl) (fun _ _ _ h => h) (fun oi ho => ?_) HSQ.out ?_
  · obtain rfl := Option.some.inj ho
    exact Or.inl ⟨by rfl, fun wx ⟨u0, u1, u2⟩ => by go_simp⟩
  simp only [Act.put, List.setIfInBounds_toArray, List.set_cons_zero, List.set_cons_succ]
  refine take_at (i := 8) (d := some 35) (v := .int .i64 (O : Int)) rfl (by kernel_rfl) (by kernel_rfl) (by kernel_rfl) (fun _ _ _ h => h) (fun oi ho => ?_) HSQ.out ?_
  · obtain rfl := Option.some.inj ho
    exact Or.inl ⟨by rfl, fun wx ⟨u0, u1, u2⟩ => by go_simp⟩
  simp only [Act.put, List.setIfInBounds_toArray, List.set_cons_zero, List.set_cons_succ]
  refine take_at (i := 9) (d := some 36) (v := .int .i64 (A2 : Int)) rfl (by kernel_rfl) (by kernel_rfl) (by kernel_rfl) (fun _ _ _ h => h) (fun oi ho => ?_) HSQ.out ?_
  · obtain rfl := Option.some.inj ho
    exact Or.inl ⟨by rfl, fun wx ⟨u0, u1, u2⟩ => by go_simp⟩
  simp only [Act.put, List.setIfInBounds_toArray, List.set_cons_zero, List.set_cons_succ]
  refine take_at (i := 10) (d := some 37) (v := B Y) rfl (by kernel_rfl) (by kernel_rfl) (by kernel_rfl) (fun _ _ _ h => h) (fun oi ho => ?_) HSQ.out ?_
  · obtain rfl := Option.some.inj ho
    exact Or.inl ⟨by rfl, fun wx ⟨u0, u1, u2⟩ => by go_simp⟩
  simp only [Act.put, List.setIfInBounds_toArray, List.set_cons_zero, List.set_cons_succ]
  refine ready_call (i := 3) (d := some 30) (f := 29) (args := #[.bool fin]) rfl (by kernel_rfl) (fun oi ho => ?_) ?_
  · obtain rfl := Option.some.inj ho
    exact ⟨by rfl, by go_simp⟩
  refine (HF1.out Wq).mono ?_
  rintro e W' ⟨rfl, hw⟩
  refine ⟨_, rfl, (by rw [hw]; exact HSQ.out), ?_⟩
  rw [hw]; clear hw
  simp only [Act.put, List.setIfInBounds_toArray, List.set_cons_zero, List.set_cons_succ]
  refine take_at (i := 11) (d := some 38) (v := B X) rfl (by kernel_rfl) (by kernel_rfl) (by kernel_rfl) (fun _ _ _ h => h) (fun oi ho => ?_) HSQ.out ?_
  · obtain rfl := Option.some.inj ho
    exact Or.inl ⟨by rfl, fun wx ⟨u0, u1, u2⟩ => by go_simp⟩
  simp only [Act.put, List.setIfInBounds_toArray, List.set_cons_zero, List.set_cons_succ]
  refine take_at (i := 12) (d := some 39) (v := .pointer (some ⟨g, 0, none⟩)) rfl (by kernel_rfl) (by kernel_rfl) (by kernel_rfl) (fun _ _ _ h => h) (fun oi ho => ?_) HSQ.out ?_
  · obtain rfl := Option.some.inj ho
    exact Or.inl ⟨by rfl, fun wx ⟨u0, u1, u2⟩ => by go_simp⟩
  simp only [Act.put, List.setIfInBounds_toArray, List.set_cons_zero, List.set_cons_succ]
  refine ready_skip (i := 13) (d := none) (w' := W7) rfl (by kernel_rfl) (fun oi ho => ?_) HS7.out ?_
  · obtain rfl := Option.some.inj ho
    exact ⟨by rfl, by rw [hW7]; go_simp⟩
  refine wpAnyH_done (by kernel_rfl) ?_ _
  refine NoPanic.normal ?_
  try simp only [Act.put]
  clear hW7 q0 qf HSQ HS7 HQ HF1 o1 o2 o3 o4 i0 hSf
  obtain ⟨c0, c1, c2, c3, c4, c5, c6, c7, c8⟩ := HCE.out W7 H7.out.frm
  clear c0 c1 c2 c4 c5 c6 c7 c8
  go_wp2_with fail
  refine (HF2.out W7).mono ?_
  rintro e W' ⟨rfl, hw⟩
  rw [hw]; clear hw HF2 c3
  obtain ⟨W8, hW8⟩ : ∃ W, W = W7.setCell ⟨g, 1, none⟩ (B X2) := ⟨_, rfl⟩
  have H8 : Hid (BySt w fc g (X :: X2 :: (Zw ++ (Zk ++ Zn))) W8) := Lib.hid (by rw [hW8]; exact H7.out.set 1 X2 rfl)
  have q1 : W7.cell? ⟨g, 1, none⟩ = some (B 0) := H7.out.row.cell rfl
  have qf1 : W7.frozen? ⟨g, 1, none⟩ = false := H7.out.row.frozen (by rw [List.length_cons, List.length_cons]; omega)
  go_wp2_with fail
  rw [← hW8]
  clear q1 qf1 hW8 i1 o5 H7
  refine (HWd.out W8).mono ?_
  rintro e W' ⟨rfl, hw⟩
  rw [hw]; clear hw HWd
  obtain ⟨AD, hAD⟩ : ∃ x : Addr, x = if T = 2 then ⟨g, 0, none⟩ else ⟨g, 2, none⟩ := ⟨_, rfl⟩
  have hsl : ∀ W, (Instr.slice 38 (.slice (some ⟨g, 0, none⟩) T T) (some (.int .i64 2)) (some (.int .i64 (n2 : Int))) none).run Try.prog W = .ok (.slice (some AD) wd (T - 2)) W := fun W => by
    have := wslice_mid g T 2 n2 (by have := Hn.out; omega) (by have := Hn.out; omega) W
    rw [← hAD, show n2 - 2 = wd by have := Hn.out; omega] at this
    exact this
  obtain ⟨C2, hC2⟩ : ∃ x, x = T - 2 := ⟨_, rfl⟩
  rw [← hC2] at hsl
  have HPu : Hid (Calls Try.prog 30 #[.slice (some AD) wd C2, .int .u64 (N : Int)] W8 fun e w' => e = .returned (.tuple #[]) ∧ MRow w' g (HD ++ (Zk ++ Zn)) 5 (0, 0) ∧ Keeps g W8 w') := Lib.hid (by
    obtain ⟨h1, h2, h3, h4, h5, h6, h7, h8, h9, h10⟩ := HLW.out
    have := put_at (N := N) (c := C2) H8.out.row (by omega) (T := T) (by omega) hAD
    rw [h2] at this
    rw [h5]
    exact this)
  clear hAD hC2
  go_wp2_with fail
  refine HPu.out.mono ?_
  rintro e W9 ⟨rfl, hM9, hK9⟩
  have H9 : Hid (BySt w fc g (HD ++ (Zk ++ Zn)) W9) := Lib.hid (H8.out.next hM9 hK9)
  clear hM9 hK9 HPu hsl m2 H8
  go_wp2_with fail
  obtain ⟨P, hP⟩ : ∃ x, x = HD ++ Zk := ⟨_, rfl⟩
  have hPl : P.length = n := by
    obtain ⟨h1, h2, h3, h4, h5, h6, h7, h8, h9, h10⟩ := HLW.out
    rw [hP, h5, List.length_append, List.length_cons, List.length_cons, be_len]; omega
  obtain ⟨AE, hAE⟩ : ∃ x : Addr, x = if T = n then ⟨g, 0, none⟩ else ⟨g, n, none⟩ := ⟨_, rfl⟩
  have hAE2 : AE = if P.length + N = P.length then ⟨g, 0, none⟩ else ⟨g, P.length, none⟩ := by
    rw [hAE, hPl, Hn.out.2.1]
  have hsf : ∀ W, (Instr.slice 38 (.slice (some ⟨g, 0, none⟩) T T) (some (.int .i64 (n : Int))) none none).run Try.prog W = .ok (.slice (some AE) N N) W := fun W => by
    have := wslice_from g T n (by have := Hn.out; omega) W
    rw [← hAE, show T - n = N by have := Hn.out; omega] at this
    exact this
  obtain ⟨Wr, hWr⟩ : ∃ W, W = W9.drew := ⟨_, rfl⟩
  have HR9 : Hid (BySt w fc g (P ++ Zn) Wr) := Lib.hid (by
    rw [hWr, hP, List.append_assoc]; exact H9.out.drew)
  obtain ⟨W10, hcp, hM10, hK10⟩ := copy_data HR9.out.row HLW.out.2.2.2.1 HLW.out.2.2.2.2.2.1.symm hAE2 3
  have H10 : Hid (BySt w fc g (P ++ data) W10) := Lib.hid (HR9.out.next hM10 hK10)
  have HS9 := Lib.hid (HCE.out W9 H9.out.frm).2.2.2.2.2.2.2.2
  have HSr := Lib.hid (HCE.out Wr HR9.out.frm).2.2.2.2.2.2.2.2
  have HS10 := Lib.hid (HCE.out W10 H10.out.frm).2.2.2.2.2.2.2.2
  have HPP := Lib.hid (And.intro hP (And.intro hPl hAE2))
  clear hP hPl hAE hAE2 hM10 hK10
  refine wp_region_noPanic ?_
  refine wp_region_held_drew (S := fun wx => wx.cell? ⟨w.heap.size, 8, none⟩ = some (S data)) (by kernel_rfl) HS9.out (fun _ => ?_)
  rw [← hWr]
  clear hWr H9 HS9
  refine take_at (i := 0) (d := some 54) (v := .slice (some ⟨g, 0, none⟩) T T) rfl (by kernel_rfl) (by kernel_rfl) (by kernel_rfl) (fun _ _ _ h => h) (fun oi ho => ?_) HSr.out ?_
  · obtain rfl := Option.some.inj ho
    exact Or.inl ⟨by rfl, fun wx hSw => by go_simp⟩
  simp only [Act.put, List.setIfInBounds_toArray, List.set_cons_zero, List.set_cons_succ]
  refine take_at (i := 1) (d := some 55) (v := .int .i64 (n : Int)) rfl (by kernel_rfl) (by kernel_rfl) (by kernel_rfl) (fun _ _ _ h => h) (fun oi ho => ?_) HSr.out ?_
  · obtain rfl := Option.some.inj ho
    exact Or.inl ⟨by rfl, fun wx hSw => by go_simp⟩
  simp only [Act.put, List.setIfInBounds_toArray, List.set_cons_zero, List.set_cons_succ]
  refine take_at (i := 2) (d := some 56) (v := .slice (some AE) N N) rfl (by kernel_rfl) (by kernel_rfl) (by kernel_rfl) (fun _ _ _ h => h) (fun oi ho => ?_) HSr.out ?_
  · obtain rfl := Option.some.inj ho
    exact Or.inl ⟨by rfl, fun wx hSw => by go_simp⟩
  simp only [Act.put, List.setIfInBounds_toArray, List.set_cons_zero, List.set_cons_succ]
  refine take_at (i := 3) (d := some 57) (v := .pointer (some ⟨w.heap.size, 8, none⟩)) rfl (by kernel_rfl) (by kernel_rfl) (by kernel_rfl) (fun _ _ _ h => h) (fun oi ho => ?_) HSr.out ?_
  · obtain rfl := Option.some.inj ho
    exact Or.inl ⟨by rfl, fun wx hSw => by go_simp⟩
  simp only [Act.put, List.setIfInBounds_toArray, List.set_cons_zero, List.set_cons_succ]
  refine take_at (i := 4) (d := some 58) (v := S data) rfl (by kernel_rfl) (by kernel_rfl) (by kernel_rfl) (fun _ _ _ h => h) (fun oi ho => ?_) HSr.out ?_
  · obtain rfl := Option.some.inj ho
    exact Or.inl ⟨by rfl, fun wx hSw => by go_simp⟩
  simp only [Act.put, List.setIfInBounds_toArray, List.set_cons_zero, List.set_cons_succ]
  refine ready_value (i := 5) (d := some 59) (v := goInt N) (w' := W10) rfl (by kernel_rfl) (fun oi ho => ?_) HS10.out ?_
  · obtain rfl := Option.some.inj ho
    exact ⟨by rfl, by go_simp⟩
  simp only [Act.put, List.setIfInBounds_toArray, List.set_cons_zero, List.set_cons_succ]
  refine wpAnyH_done (by kernel_rfl) ?_ _
  refine NoPanic.normal ?_
  try simp only [Act.put]
  clear hcp HSr HS10 HR9
  obtain ⟨c0, c1, c2, c3, c4, c5, c6, c7, c8⟩ := HCE.out W10 H10.out.frm
  clear c0 c1 c2 c8
  cases m
  · have hlT : (P ++ data).length = T := by have := HPP.out.2.1; have := HLW.out.2.2.2.2.2.1; have := Hn.out; rw [List.length_append]; omega
    have hcv := mrow_text (Z := []) (by rw [List.append_nil]; exact H10.out.row) T
    rw [hlT] at hcv
    have HE := Lib.hid H10.out.below
    have HVE : Hid (HD ++ ((if false = true then [k0, k1, k2, k3] else []) ++ maskN ⟨k0, k1, k2, k3⟩ 0 data) = P ++ data) := Lib.hid (by
      obtain ⟨h1, h2, h3, h4, h5, h6, h7, h8, h9, h10⟩ := HLW.out
      have hz : Zk = [] := List.length_eq_zero_iff.1 (by rw [h3, h10]; rfl)
      rw [HM0.out rfl, HPP.out.1, hz]
      simp)
    clear hlT hsf c4 c5 c6 c7
    go_wp2
    go_ret2
    exact ⟨by rw [HV.out, HVE.out]; rfl, HE.out⟩
  · go_wp2
    clear c3
    have hz4 : Zk.length = 4 := by
      obtain ⟨h1, h2, h3, h4, h5, h6, h7, h8, h9, h10⟩ := HLW.out
      rw [h3, h10]; rfl
    obtain ⟨n4, hn4⟩ : ∃ x, x = n - 4 := ⟨_, rfl⟩
    have hHl : HD.length = n4 := by
      have := HPP.out.2.1
      rw [HPP.out.1, List.length_append, hz4] at this
      omega
    have hnn := Hn.out
    have hbig : 4 ≤ n := by have := HPP.out.2.1; rw [HPP.out.1, List.length_append, hz4] at this; omega
    have m4 : IntKind.i64.wrap ((n : Int) - 4) = (n4 : Int) := by
      have h6 := HLW.out.2.2.2.2.2.2.2.2.1
      have := Hn.out
      rw [IntKind.wrap_i64]; omega
    have hsk : ∀ W, (Instr.slice 38 (.slice (some ⟨g, 0, none⟩) T T) (some (.int .i64 (n4 : Int))) none none).run Try.prog W = .ok (.slice (some ⟨g, n4, none⟩) (T - n4) (T - n4)) W := fun W => by
      have := wslice_from g T n4 (by omega) W
      rw [if_neg (by omega)] at this
      exact this
    have hsa := wslice_arr w.heap.size 4
    obtain ⟨D4, hD4⟩ : ∃ x, x = T - n4 := ⟨_, rfl⟩
    rw [← hD4] at hsk
    obtain ⟨Wr, hWr⟩ : ∃ W, W = W10.drew := ⟨_, rfl⟩
    have HRr : Hid (BySt w fc g (HD ++ (Zk ++ data)) Wr) := Lib.hid (by
      rw [hWr, ← List.append_assoc, ← HPP.out.1]; exact H10.out.drew)
    obtain ⟨d0, d1, d2, d3, d4, d5, d6, d7, d8⟩ := HCE.out Wr HRr.out.frm
    obtain ⟨W12, hcp, hM12, hK12⟩ := copy_key (c := D4) HRr.out.row hz4 (N := D4) (by omega) d4 d5 d6 d7 3
    rw [hHl] at hcp
    have H12 : Hid (BySt w fc g ((HD ++ [k0, k1, k2, k3]) ++ data) W12) := Lib.hid (by rw [List.append_assoc]; exact HRr.out.next hM12 hK12)
    have HN4 := Lib.hid (And.intro hHl (And.intro hn4 hbig))
    clear hM12 hK12 HRr d0 d1 d2 d3 d4 d5 d6 d7 d8 c4 c5 c6 c7 hD4 hHl hz4 hnn hn4 hbig
    refine wp_region_noPanic ?_
    refine wp_region_held_drew (S := fun _ => True) (by kernel_rfl) trivial (fun _ => ?_)
    rw [← hWr]
    clear hWr H10
    refine take_at (i := 0) (d := some 62) (v := .slice (some ⟨g, 0, none⟩) T T) rfl (by kernel_rfl) (by kernel_rfl) (by kernel_rfl) (fun _ _ _ h => h) (fun oi ho => ?_) trivial ?_
    · obtain rfl := Option.some.inj ho
      exact Or.inl ⟨by rfl, fun wx _ => by go_simp⟩
    simp only [Act.put, List.setIfInBounds_toArray, List.set_cons_zero, List.set_cons_succ]
    refine take_at (i := 1) (d := some 63) (v := .int .i64 (n : Int)) rfl (by kernel_rfl) (by kernel_rfl) (by kernel_rfl) (fun _ _ _ h => h) (fun oi ho => ?_) trivial ?_
    · obtain rfl := Option.some.inj ho
      exact Or.inl ⟨by rfl, fun wx _ => by go_simp⟩
    simp only [Act.put, List.setIfInBounds_toArray, List.set_cons_zero, List.set_cons_succ]
    refine take_at (i := 2) (d := some 64) (v := .int .i64 (n4 : Int)) rfl (by kernel_rfl) (by kernel_rfl) (by kernel_rfl) (fun _ _ _ h => h) (fun oi ho => ?_) trivial ?_
    · obtain rfl := Option.some.inj ho
      exact Or.inl ⟨by rfl, fun wx _ => by go_simp⟩
    simp only [Act.put, List.setIfInBounds_toArray, List.set_cons_zero, List.set_cons_succ]
    refine take_at (i := 3) (d := some 65) (v := .slice (some ⟨g, n4, none⟩) D4 D4) rfl (by kernel_rfl) (by kernel_rfl) (by kernel_rfl) (fun _ _ _ h => h) (fun oi ho => ?_) trivial ?_
    · obtain rfl := Option.some.inj ho
      exact Or.inl ⟨by rfl, fun wx _ => by go_simp⟩
    simp only [Act.put, List.setIfInBounds_toArray, List.set_cons_zero, List.set_cons_succ]
    refine take_at (i := 4) (d := some 66) (v := .pointer (some ⟨w.heap.size, 4, none⟩)) rfl (by kernel_rfl) (by kernel_rfl) (by kernel_rfl) (fun _ _ _ h => h) (fun oi ho => ?_) trivial ?_
    · obtain rfl := Option.some.inj ho
      exact Or.inl ⟨by rfl, fun wx _ => by go_simp⟩
    simp only [Act.put, List.setIfInBounds_toArray, List.set_cons_zero, List.set_cons_succ]
    refine take_at (i := 5) (d := some 67) (v := .slice (some ⟨w.heap.size, 4, none⟩) 4 4) rfl (by kernel_rfl) (by kernel_rfl) (by kernel_rfl) (fun _ _ _ h => h) (fun oi ho => ?_) trivial ?_
    · obtain rfl := Option.some.inj ho
      exact Or.inl ⟨by rfl, fun wx _ => by go_simp⟩
    simp only [Act.put, List.setIfInBounds_toArray, List.set_cons_zero, List.set_cons_succ]
    refine ready_value (i := 6) (d := some 68) (v := goInt 4) (w' := W12) rfl (by kernel_rfl) (fun oi ho => ?_) trivial ?_
    · obtain rfl := Option.some.inj ho
      exact ⟨by rfl, by go_simp⟩
    simp only [Act.put, List.setIfInBounds_toArray, List.set_cons_zero, List.set_cons_succ]
    refine wpAnyH_done (by kernel_rfl) ?_ _
    refine NoPanic.normal ?_
    try simp only [Act.put]
    clear hcp hsk hsa m4
    go_wp2_with fail
    obtain ⟨c0, c1, c2, c3, c4, c5, c6, c7, c8⟩ := HCE.out W12 H12.out.frm
    have HS12 := Lib.hid (And.intro c4 (And.intro c5 (And.intro c6 c7)))
    clear c0 c1 c2 c3 c4 c5 c6 c7 c8
    obtain ⟨Ws, hWs⟩ : ∃ W, W = W12.drew := ⟨_, rfl⟩
    have HRs : Hid (BySt w fc g ((HD ++ [k0, k1, k2, k3]) ++ data) Ws) := Lib.hid (by rw [hWs]; exact H12.out.drew)
    have HKm : Hid (Calls Try.prog 32 #[.agg #[B k0, B k1, B k2, B k3], .int .i64 0, .slice (some AE) N N] Ws fun e w' => e = .returned (.tuple #[]) ∧ MRow w' g ((HD ++ [k0, k1, k2, k3]) ++ maskN ⟨k0, k1, k2, k3⟩ 0 data) 5 (0, 0) ∧ Keeps g Ws w') := Lib.hid (by
      have hp : (HD ++ [k0, k1, k2, k3]).length = P.length := by
        rw [HPP.out.2.1, List.length_append, HN4.out.1]
        have := HN4.out.2
        show n4 + 4 = n
        omega
      have hAE := HPP.out.2.2
      rw [← hp] at hAE
      exact mask_at ⟨k0, k1, k2, k3⟩ HRs.out.row HLW.out.2.2.2.2.2.1.symm (by have := HLW.out; have := Hn.out; omega) hAE)
    have HSs := Lib.hid (HCE.out Ws HRs.out.frm)
    refine wp_region_noPanic ?_
    refine wp_region_held_drew (S := fun wx => wx.cell? ⟨w.heap.size, 4, none⟩ = some (B k0) ∧ wx.cell? ⟨w.heap.size, 5, none⟩ = some (B k1) ∧ wx.cell? ⟨w.heap.size, 6, none⟩ = some (B k2) ∧ wx.cell? ⟨w.heap.size, 7, none⟩ = some (B k3)) (by kernel_rfl) HS12.out (fun _ => ?_)
    rw [← hWs]
    clear hWs H12 HS12
    have HS4 : Hid (Ws.cell? ⟨w.heap.size, 4, none⟩ = some (B k0) ∧ Ws.cell? ⟨w.heap.size, 5, none⟩ = some (B k1) ∧ Ws.cell? ⟨w.heap.size, 6, none⟩ = some (B k2) ∧ Ws.cell? ⟨w.heap.size, 7, none⟩ = some (B k3)) := Lib.hid (by
      obtain ⟨c0, c1, c2, c3, c4, c5, c6, c7, c8⟩ := HSs.out
      exact ⟨c4, c5, c6, c7⟩)
    refine take_at (i := 0) (d := some 69) (v := .pointer (some ⟨w.heap.size, 4, none⟩)) rfl (by kernel_rfl) (by kernel_rfl) (by kernel_rfl) (fun _ _ _ h => h) (fun oi ho => ?_) HS4.out ?_
    · obtain rfl := Option.some.inj ho
      exact Or.inl ⟨by rfl, fun wx ⟨u0, u1, u2, u3⟩ => by go_simp⟩
    simp only [Act.put, List.setIfInBounds_toArray, List.set_cons_zero, List.set_cons_succ]
    refine take_at (i := 1) (d := some 70) (v := .agg #[B k0, B k1, B k2, B k3]) rfl (by kernel_rfl) (by kernel_rfl) (by kernel_rfl) (fun _ _ _ h => h) (fun oi ho => ?_) HS4.out ?_
    · obtain rfl := Option.some.inj ho
      exact Or.inl ⟨by rfl, fun wx ⟨u0, u1, u2, u3⟩ => by go_simp⟩
    simp only [Act.put, List.setIfInBounds_toArray, List.set_cons_zero, List.set_cons_succ]
    refine take_at (i := 2) (d := some 71) (v := .slice (some ⟨g, 0, none⟩) T T) rfl (by kernel_rfl) (by kernel_rfl) (by kernel_rfl) (fun _ _ _ h => h) (fun oi ho => ?_) HS4.out ?_
    · obtain rfl := Option.some.inj ho
      exact Or.inl ⟨by rfl, fun wx ⟨u0, u1, u2, u3⟩ => by go_simp⟩
    simp only [Act.put, List.setIfInBounds_toArray, List.set_cons_zero, List.set_cons_succ]
    refine take_at (i := 3) (d := some 72) (v := .int .i64 (n : Int)) rfl (by kernel_rfl) (by kernel_rfl) (by kernel_rfl) (fun _ _ _ h => h) (fun oi ho => ?_) HS4.out ?_
    · obtain rfl := Option.some.inj ho
      exact Or.inl ⟨by rfl, fun wx ⟨u0, u1, u2, u3⟩ => by go_simp⟩
    simp only [Act.put, List.setIfInBounds_toArray, List.set_cons_zero, List.set_cons_succ]
    refine take_at (i := 4) (d := some 73) (v := .slice (some AE) N N) rfl (by kernel_rfl) (by kernel_rfl) (by kernel_rfl) (fun _ _ _ h => h) (fun oi ho => ?_) HS4.out ?_
    · obtain rfl := Option.some.inj ho
      exact Or.inl ⟨by rfl, fun wx ⟨u0, u1, u2, u3⟩ => by go_simp⟩
    simp only [Act.put, List.setIfInBounds_toArray, List.set_cons_zero, List.set_cons_succ]
    refine ready_call (i := 5) (d := some 74) (f := 32) (args := #[.agg #[B k0, B k1, B k2, B k3], .int .i64 0, .slice (some AE) N N]) rfl (by kernel_rfl) (fun oi ho => ?_) ?_
    · obtain rfl := Option.some.inj ho
      exact ⟨by rfl, by go_simp⟩
    refine (HKm.out).mono ?_
    rintro e W13 ⟨rfl, hM13, hK13⟩
    have H13 : Hid (BySt w fc g ((HD ++ [k0, k1, k2, k3]) ++ maskN ⟨k0, k1, k2, k3⟩ 0 data) W13) := Lib.hid (HRs.out.next hM13 hK13)
    have HS13 : Hid (W13.cell? ⟨w.heap.size, 4, none⟩ = some (B k0) ∧ W13.cell? ⟨w.heap.size, 5, none⟩ = some (B k1) ∧ W13.cell? ⟨w.heap.size, 6, none⟩ = some (B k2) ∧ W13.cell? ⟨w.heap.size, 7, none⟩ = some (B k3)) := Lib.hid (by
      obtain ⟨c0, c1, c2, c3, c4, c5, c6, c7, c8⟩ := HCE.out W13 H13.out.frm
      exact ⟨c4, c5, c6, c7⟩)
    clear hM13 hK13
    refine ⟨_, rfl, HS13.out, ?_⟩
    simp only [Act.put, List.setIfInBounds_toArray, List.set_cons_zero, List.set_cons_succ]
    refine wpAnyH_done (by kernel_rfl) ?_ _
    refine NoPanic.normal ?_
    try simp only [Act.put]
    clear HS4 HS13 HSs HKm HRs hsf
    have hlT : ((HD ++ [k0, k1, k2, k3]) ++ maskN ⟨k0, k1, k2, k3⟩ 0 data).length = T := by
      have h1 := HN4.out
      have h2 := HLW.out.2.2.2.2.2.1
      have h3 := Hn.out
      rw [List.length_append, List.length_append, mask_len, h1.1]
      show n4 + 4 + _ = _
      omega
    have hcv := mrow_text (Z := []) (by rw [List.append_nil]; exact H13.out.row) T
    rw [hlT] at hcv
    have HE := Lib.hid H13.out.below
    have HVE : Hid (HD ++ ((if true = true then [k0, k1, k2, k3] else []) ++ maskN ⟨k0, k1, k2, k3⟩ 0 data) = (HD ++ [k0, k1, k2, k3]) ++ maskN ⟨k0, k1, k2, k3⟩ 0 data) := Lib.hid (by rw [List.append_assoc]; rfl)
    obtain ⟨FL, hFL⟩ : ∃ x, x = (HD ++ [k0, k1, k2, k3]) ++ maskN ⟨k0, k1, k2, k3⟩ 0 data := ⟨_, rfl⟩
    rw [← hFL] at hcv HVE
    clear hlT hFL H13
    go_wp2
    go_ret2
    exact ⟨by rw [HV.out, HVE.out]; rfl, HE.out⟩
theorem wbytes_any (f : Frm) (hl : f.data.length ≤ 200000) (w : World) : Calls Try.prog 20 #[frV f] w fun e w' => e = .returned (bytesV f) ∧ Below w.heap.size w w' := by
  cases h : okFr f with
  | true => exact wbytes_ok f h hl w
  | false => exact wbytes_no f h w

end Go.Proofs.Ytlmolmmhkddpaaa
