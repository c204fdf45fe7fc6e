/- Where the landed Bytes writes: slices of a row of bytes, what is copied into them and masked there. -/
import Derived.Test.YtlmolmmhkddpaaaEw5
import Derived.Laws.CopyRow
namespace Go.Proofs.Ytlmolmmhkddpaaa
open Go.RowKit
attribute [local go_sem] store_one B_match B_store S_match S_store

theorem wslice_mid (g T l h : Nat) (hl : l ≤ h) (hh : h ≤ T) (W : World) : (Instr.slice 38 (.slice (some ⟨g, 0, none⟩) T T) (some (.int .i64 (l : Int))) (some (.int .i64 (h : Int))) none).run Try.prog W = .ok (.slice (some (if T = l then ⟨g, 0, none⟩ else ⟨g, l, none⟩)) (h - l) (T - l)) W := by
  have hadd : (⟨g, 0, none⟩ : Addr).add l = ⟨g, l, none⟩ := by rw [Addr.add_mid, Nat.zero_add]
  have hlT : l ≤ T := Nat.le_trans hl hh
  simp [Instr.slice, run_underlying Try.underlying38, Instr.sliceBounds, run_sliceBound, Result.andThen, hl, hh, hadd]
  split <;> rfl
theorem wslice_from (g T l : Nat) (hl : l ≤ T) (W : World) : (Instr.slice 38 (.slice (some ⟨g, 0, none⟩) T T) (some (.int .i64 (l : Int))) none none).run Try.prog W = .ok (.slice (some (if T = l then ⟨g, 0, none⟩ else ⟨g, l, none⟩)) (T - l) (T - l)) W := by
  have hadd : (⟨g, 0, none⟩ : Addr).add l = ⟨g, l, none⟩ := by rw [Addr.add_mid, Nat.zero_add]
  simp [Instr.slice, run_underlying Try.underlying38, Instr.sliceBounds, run_sliceBound, Result.andThen, hl, hadd]
  split <;> rfl
theorem wslice_arr (b o : Nat) (W : World) : (Instr.sliceAt 43 (.pointer (some ⟨b, o, none⟩)) none none none).run Try.prog W = .ok (.slice (some ⟨b, o, none⟩) 4 4) W := by
  have hadd : (⟨b, o, none⟩ : Addr).add 0 = ⟨b, o, none⟩ := by rw [Addr.add_mid, Nat.add_zero]
  go_simp
theorem mrow_of {w : World} {g : Nat} {L : List UInt8} {t : TypeId} (h : Row w g (bcells L) t) : MRow w g L t (0, 0) := ⟨h, .inl rfl⟩
theorem mrow_setRow {w : World} {g : Nat} {L L' : List UInt8} {t : TypeId} (h : MRow w g L t (0, 0)) {cs : Array Value} (e : cs = bcells L') : MRow (w.setRow g cs) g L' t (0, 0) := by
  subst e
  exact ⟨setRow_heap w g _ _ t _ h.1, .inl rfl⟩
theorem wmake_row (T : Nat) (hT : T ≤ 1000000) (W : World) : (Instr.makeSlice 38 (.int .i64 (T : Int)) (.int .i64 (T : Int))).run Try.prog W = .ok (.slice (some ⟨W.heap.size, 0, none⟩) T T) (W.alloc (.cells (bcells (List.replicate T 0)) 5)) := by
  obtain ⟨i, hi⟩ : ∃ i, (Try.prog.info? 5) = some i := Option.isSome_iff_exists.1 (by kernel_rfl)
  have h1 : (Try.prog.info? 5).map (fun t => (t.size, t.bytes)) = some (1, 1) := by kernel_rfl
  have h2 : (Try.prog.info? 5).map (fun t => t.zero) = some (some (.int .u8 0)) := by kernel_rfl
  rw [hi] at h1 h2
  simp only [Option.map_some, Option.some.injEq, Prod.mk.injEq] at h1 h2
  have hr := run_make (P := Try.prog) W 38 5 i (.int .u8 0) Try.underlying38 hi h2 .i64 .i64 T T (by omega) (by omega) (by rw [h1.2]; omega) (by omega)
  rw [h1.1, Nat.mul_one, Int.toNat_natCast] at hr
  have hc : madeCells (Value.int .u8 0).cells T = bcells (List.replicate T 0) := by
    apply Array.ext
    · rw [bcells_size, List.length_replicate]; simp [madeCells]
    · intro j h1 h2
      have h3 : j < T := by rw [bcells_size, List.length_replicate] at h2; exact h2
      have e1 : (madeCells (Value.int .u8 0).cells T)[j]? = some (.int .u8 0) := by
        unfold madeCells
        rw [Array.getElem?_map, Array.getElem?_range, if_pos h3]
        simp [Value.cells, Nat.mod_one]
      have e2 : (bcells (List.replicate T 0))[j]? = some (.int .u8 0) := by
        rw [bcells_get _ j (by rw [List.length_replicate]; exact h3), List.getElem?_replicate, if_pos h3]; rfl
      rw [Array.getElem?_eq_getElem h1] at e1
      rw [Array.getElem?_eq_getElem h2] at e2
      exact Option.some.inj (e1.trans e2.symm)
  rw [hc] at hr
  exact hr
/-- The number, written behind the first two bytes. -/
theorem put_at {W : World} {g N T c : Nat} {a b : UInt8} {Z R : List UInt8} (h : MRow W g (a :: b :: (Z ++ R)) 5 (0, 0)) (hz : Z.length ≤ 8) (hT : 2 + Z.length ≤ T) {AD : Addr} (hAD : AD = if T = 2 then ⟨g, 0, none⟩ else ⟨g, 2, none⟩) :
    Calls Try.prog 30 #[.slice (some AD) Z.length c, .int .u64 (N : Int)] W fun e w' => e = .returned (.tuple #[]) ∧ MRow w' g (a :: b :: (be Z.length N ++ R)) 5 (0, 0) ∧ Keeps g W w' := by
  rcases Z with _ | ⟨z, Z⟩
  · refine (put0_any (some AD) c N W).mono ?_
    rintro e w' ⟨rfl, rfl⟩
    exact ⟨rfl, h, .refl _ _⟩
  · obtain ⟨k, hk⟩ : ∃ k, k = (z :: Z).length := ⟨_, rfl⟩
    have hk1 : 1 ≤ k := by rw [hk, List.length_cons]; omega
    rw [if_neg (by omega)] at hAD
    rw [hAD, ← hk]
    refine (put_any N g 2 k c (by omega) _ 5 (0, 0) W h (by rw [List.length_cons, List.length_cons, List.length_append, ← hk]; omega)).mono ?_
    rintro e w' ⟨rfl, hr, hK⟩
    refine ⟨rfl, ?_, hK⟩
    have : putL (a :: b :: (z :: Z ++ R)) 2 k N k = a :: b :: (be k N ++ R) := by
      unfold putL
      rw [Nat.sub_self, Nat.add_zero, Nat.add_comm 2 k, List.drop_succ_cons, List.drop_succ_cons, List.take_succ_cons, List.take_succ_cons, List.take_zero, hk, List.drop_left]
      rfl
    rw [this] at hr
    exact hr
/-- The data, copied to the end. -/
theorem copy_data {W : World} {g N : Nat} {H Z d : List UInt8} (h : MRow W g (H ++ Z) 5 (0, 0)) (hz : Z.length = N) (hd : d.length = N) {AD : Addr} (hAD : AD = if H.length + N = H.length then ⟨g, 0, none⟩ else ⟨g, H.length, none⟩) (ty : TypeId) :
    ∃ W', (Builtin.copy_ #[38, 9] ty #[.slice (some AD) N N, S d]).run Try.prog W = .ok (goInt N) W' ∧ MRow W' g (H ++ d) 5 (0, 0) ∧ Keeps g W W' := by
  have hb : ∀ l : List UInt8, (bcells l).toList = l.map B := fun l => by unfold bcells; exact List.toList_toArray
  by_cases h0 : N = 0
  · subst h0
    obtain rfl : Z = [] := List.length_eq_zero_iff.1 hz
    obtain rfl : d = [] := List.length_eq_zero_iff.1 hd
    rw [if_pos (by omega)] at hAD
    subst hAD
    exact ⟨_, run_copy_str (P := Try.prog) Try.underlying38 wsize5 W ty g 0 0 0 _ 5 [] 0 rfl h.1 (by omega), mrow_setRow h (by rw [hb]; simp [bcells]), .setRow _ _⟩
  · rw [if_neg (by omega)] at hAD
    subst hAD
    have hr := run_copy_str (P := Try.prog) (td := 38) (e := 5) (ts := 9) Try.underlying38 wsize5 W ty g H.length N N _ 5 d N (by rw [hd]; exact (Nat.min_self _).symm) h.1 (by rw [bcells_size, List.length_append, hz]; omega)
    refine ⟨_, hr, mrow_setRow h ?_, .setRow _ _⟩
    rw [hb, List.map_append, ← hd, List.take_length]
    have e1 : (H.map B ++ Z.map B).take H.length = H.map B := by
      rw [List.take_append_of_le_length (by rw [List.length_map]; exact Nat.le_refl _), List.take_of_length_le (by rw [List.length_map]; exact Nat.le_refl _)]
    have e2 : (H.map B ++ Z.map B).drop (H.length + d.length) = [] := List.drop_eq_nil_iff.2 (by rw [List.length_append, List.length_map, List.length_map, hz, hd]; omega)
    rw [e1, e2, List.append_nil]
    unfold bcells
    rw [List.map_append]
/-- The key, copied ahead of the data. -/
theorem copy_key {W : World} {g b N c : Nat} {H Z d : List UInt8} {k0 k1 k2 k3 : UInt8} (h : MRow W g (H ++ (Z ++ d)) 5 (0, 0)) (hz : Z.length = 4) (h4 : 4 ≤ N)
    (c0 : W.cell? ⟨b, 4, none⟩ = some (B k0)) (c1 : W.cell? ⟨b, 5, none⟩ = some (B k1)) (c2 : W.cell? ⟨b, 6, none⟩ = some (B k2)) (c3 : W.cell? ⟨b, 7, none⟩ = some (B k3)) (ty : TypeId) :
    ∃ W', (Builtin.copy_ #[38, 38] ty #[.slice (some ⟨g, H.length, none⟩) N c, .slice (some ⟨b, 4, none⟩) 4 4]).run Try.prog W = .ok (goInt 4) W' ∧ MRow W' g (H ++ ([k0, k1, k2, k3] ++ d)) 5 (0, 0) ∧ Keeps g W W' := by
  have hb : ∀ l : List UInt8, (bcells l).toList = l.map B := fun l => by unfold bcells; exact List.toList_toArray
  have hr := run_copy_row (P := Try.prog) W 38 38 ty 5 g H.length N c ⟨b, 4, none⟩ 4 4 _ 5 [B k0, B k1, B k2, B k3] Try.underlying38 (by kernel_rfl) h.1 (by show 4 = min 4 N; omega)
    (fun j v hj => by
      rw [Addr.add_mid]
      rcases j with _ | _ | _ | _ | j
      · obtain rfl := Option.some.inj hj; exact c0
      · obtain rfl := Option.some.inj hj; exact c1
      · obtain rfl := Option.some.inj hj; exact c2
      · obtain rfl := Option.some.inj hj; exact c3
      · simp at hj) (by rw [bcells_size, List.length_append, List.length_append, hz]; show H.length + 4 ≤ _; omega)
    (fun v hv => by
      simp only [List.mem_cons, List.not_mem_nil, or_false] at hv
      rcases hv with rfl | rfl | rfl | rfl <;> rfl)
  refine ⟨_, hr, mrow_setRow h ?_, .setRow _ _⟩
  rw [hb, List.map_append, List.map_append]
  have e1 : (H.map B ++ (Z.map B ++ d.map B)).take H.length = H.map B := by
    rw [List.take_append_of_le_length (by rw [List.length_map]; exact Nat.le_refl _), List.take_of_length_le (by rw [List.length_map]; exact Nat.le_refl _)]
  have e2 : (H.map B ++ (Z.map B ++ d.map B)).drop (H.length + [B k0, B k1, B k2, B k3].length) = d.map B := by
    rw [← List.append_assoc, List.drop_append_of_le_length (by rw [List.length_append, List.length_map, List.length_map, hz]; exact Nat.le_refl _), List.drop_of_length_le (by rw [List.length_append, List.length_map, List.length_map, hz]; exact Nat.le_refl _), List.nil_append]
  rw [e1, e2]
  unfold bcells
  rw [List.map_append, List.map_append, List.append_assoc]
  rfl
/-- The data, masked where they stand. -/
theorem mask_at {W : World} {g N c : Nat} {H d : List UInt8} (K : Key4) (h : MRow W g (H ++ d) 5 (0, 0)) (hd : d.length = N) (hN : N ≤ 1000000) {AD : Addr} (hAD : AD = if H.length + N = H.length then ⟨g, 0, none⟩ else ⟨g, H.length, none⟩) :
    Calls Try.prog 32 #[kV K, .int .i64 0, .slice (some AD) N c] W fun e w' => e = .returned (.tuple #[]) ∧ MRow w' g (H ++ maskN K 0 d) 5 (0, 0) ∧ Keeps g W w' := by
  by_cases h0 : N = 0
  · subst h0
    obtain rfl : d = [] := List.length_eq_zero_iff.1 hd
    refine (mask0_any K 0 (some AD) c W).mono ?_
    rintro e w' ⟨rfl, hB⟩
    exact ⟨rfl, h.below hB, .of_below hB⟩
  · rw [if_neg (by omega)] at hAD
    subst hAD
    refine (mask_any K 0 g H.length N c _ 5 (0, 0) W h (by rw [List.length_append, hd]; exact Nat.le_refl _) hN).mono ?_
    rintro e w' ⟨rfl, hr, hK⟩
    refine ⟨rfl, ?_, hK⟩
    have : mskL (H ++ d) H.length K 0 N = H ++ maskN K 0 d := by
      unfold mskL
      rw [List.take_left, List.drop_left, ← hd, List.take_length, List.drop_of_length_le (by rw [List.length_append]; exact Nat.le_refl _), List.append_nil]
    rw [this] at hr
    exact hr
end Go.Proofs.Ytlmolmmhkddpaaa
