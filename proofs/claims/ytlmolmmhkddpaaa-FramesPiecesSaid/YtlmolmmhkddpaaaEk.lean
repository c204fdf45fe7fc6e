/- Keys, heads and frames held against each other (stage 15). -/
import Derived.Test.YtlmolmmhkddpaaaEh
import Derived.Laws.StructEq
import Derived.ChangeKeysEq
namespace Go.Proofs.Ytlmolmmhkddpaaa
open Go.RowKit
attribute [local go_sem] store_one B_match B_store S_match S_store

theorem eqin_B (d : Nat) (x y : UInt8) (w : World) : (Op.equalIn (d + 1) 5 (B x) (B y)).run Try.prog w = .ok (x == y) w := by
  rw [B, B, run_equalIn_int w d 5 .u8 .u8 _ _ Try.underlying5]
  congr 1
  rw [Bool.eq_iff_iff, beq_iff_eq, beq_iff_eq]
  exact ⟨fun h => UInt8.toNat_inj.1 (by omega), fun h => by rw [h]⟩
theorem infoK : ∃ i, Try.prog.info? 43 = some i := by
  have : (Try.prog.info? 43).isSome = true := by kernel_rfl
  exact Option.isSome_iff_exists.1 this
theorem info5E : ∃ i, Try.prog.info? 5 = some i := by
  have : (Try.prog.info? 5).isSome = true := by kernel_rfl
  exact Option.isSome_iff_exists.1 this
theorem part_B (c : Array Value) (i : Nat) (x : UInt8) (h : c[i]? = some (B x)) (w : World) : (part 5 c (i * 1)).run Try.prog w = .ok (B x) w := by
  have ha := Try.isAgg5 w
  rw [Nat.mul_one]
  unfold part
  simp [ha, h]
theorem eqin_key (d : Nat) (K L : Key4) (w : World) : (Op.equalIn (d + 2) 43 (kV K) (kV L)).run Try.prog w = .ok (K.k0 == L.k0 && (K.k1 == L.k1 && (K.k2 == L.k2 && K.k3 == L.k3))) w := by
  obtain ⟨i, hi⟩ := info5E
  have hc : Try.prog.cellsOf 5 = 1 := by kernel_rfl
  unfold kV
  rw [run_equalIn_array w (d + 1) (kC K) (kC L) Try.underlying43 hi, hc]
  have e0 := eqin_B d K.k0 L.k0 w
  have e1 := eqin_B d K.k1 L.k1 w
  have e2 := eqin_B d K.k2 L.k2 w
  have e3 := eqin_B d K.k3 L.k3 w
  have p0 := fun M : Key4 => part_B (kC M) 0 M.k0 rfl w
  have p1 := fun M : Key4 => part_B (kC M) 1 M.k1 rfl w
  have p2 := fun M : Key4 => part_B (kC M) 2 M.k2 rfl w
  have p3 := fun M : Key4 => part_B (kC M) 3 M.k3 rfl w
  rw [show List.range 4 = [0, 1, 2, 3] from rfl]
  simp only [Op.eqItems, Sem.run_bind, p0, p1, p2, p3, e0, e1, e2, e3, Result.andThen_ok, Sem.run_ite, Sem.run_pure]
  cases (K.k0 == L.k0) <;> cases (K.k1 == L.k1) <;> cases (K.k2 == L.k2) <;> cases (K.k3 == L.k3) <;> rfl
theorem part_K (c : Array Value) (o : Nat) (K : Key4) (h : c.extract o (o + 4) = kC K) (w : World) : (part 43 c o).run Try.prog w = .ok (kV K) w := by
  have ha := Try.isAgg43 w
  have hz := Try.sizeOf43 w
  unfold part
  simp [ha, h, kV]
theorem part_1 {t : TypeId} (ht : ∀ w, (isAgg t).run Try.prog w = .ok false w) (c : Array Value) (o : Nat) (v : Value) (h : c[o]? = some v) (w : World) : (part t c o).run Try.prog w = .ok v w := by
  unfold part
  simp [ht w, h]
theorem eqin_frame (f : Frm) (w : World) : (Op.equalIn 10000 51 (frV f) (frV f)).run Try.prog w = .ok true w := by
  unfold frV
  rw [run_equalIn_agg w 9999 51 _ _ (by kernel_rfl) (by kernel_rfl)]
  have hfs : (Try.prog.fieldsOf 51).toList.map (fun f => (f.name, f.type, f.offset)) = [("Fin", 4, 0), ("Rsv", 3, 1), ("Op", 3, 2), ("Masked", 4, 3), ("Key", 43, 4), ("Data", 9, 8)] := by kernel_rfl
  have b4 : ∀ b : Bool, (Op.equalIn 9999 4 (.bool b) (.bool b)).run Try.prog w = .ok true w := fun b => by rw [run_equalIn_bool' w 9998 4 b b Try.underlying4]; simp
  have b3 : ∀ n : Int, (Op.equalIn 9999 3 (.int .i64 n) (.int .i64 n)).run Try.prog w = .ok true w := fun n => by rw [run_equalIn_int w 9998 3 .i64 .i64 n n Try.underlying3]; simp
  have b9 : ∀ s : List UInt8, (Op.equalIn 9999 9 (S s) (S s)).run Try.prog w = .ok true w := fun s => by unfold S; rw [run_equalIn_string w 9998 9 _ _ Try.underlying9]; simp
  have bk := eqin_key 9997 f.key f.key w
  simp only [beq_self_eq_true, Bool.and_self] at bk
  have p0 := part_1 Try.isAgg4 (frC f) 0 (.bool f.fin) rfl w
  have p1 := part_1 Try.isAgg3 (frC f) 1 (.int .i64 f.rsv) rfl w
  have p2 := part_1 Try.isAgg3 (frC f) 2 (.int .i64 f.op) rfl w
  have p3 := part_1 Try.isAgg4 (frC f) 3 (.bool f.masked) rfl w
  have p4 := part_K (frC f) 4 f.key rfl w
  have p8 := part_1 Try.isAgg9 (frC f) 8 (S f.data) rfl w
  obtain ⟨l, hl⟩ : ∃ l, l = (Try.prog.fieldsOf 51).toList := ⟨_, rfl⟩
  rw [← hl] at hfs ⊢
  rcases l with _ | ⟨f0, _ | ⟨f1, _ | ⟨f2, _ | ⟨f3, _ | ⟨f4, _ | ⟨f5, _ | ⟨f6, l⟩⟩⟩⟩⟩⟩⟩
  all_goals first | (simp at hfs; done) | skip
  simp only [List.map_cons, List.map_nil, List.cons.injEq, Prod.mk.injEq, and_true] at hfs
  obtain ⟨⟨n0, t0, o0⟩, ⟨n1, t1, o1⟩, ⟨n2, t2, o2⟩, ⟨n3, t3, o3⟩, ⟨n4, t4, o4⟩, ⟨n5, t5, o5⟩⟩ := hfs
  simp only [Op.eqFields, n0, t0, o0, n1, t1, o1, n2, t2, o2, n3, t3, o3, n4, t4, o4, n5, t5, o5, Sem.run_ite, Sem.run_bind, p0, p1, p2, p3, p4, p8, b4, b3, b9, bk, Result.andThen_ok, Sem.run_pure]
  simp
end Go.Proofs.Ytlmolmmhkddpaaa
