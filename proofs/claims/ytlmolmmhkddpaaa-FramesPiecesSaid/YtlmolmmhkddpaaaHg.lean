/- Events held against each other; the statements' same (stage 16) walked. -/
import Derived.Test.YtlmolmmhkddpaaaHe
import Derived.Laws.StructEq
import Derived.ChangeKeysEq
import Derived.BigQuiet
namespace Go.Proofs.Ytlmolmmhkddpaaa
open Go.RowKit
attribute [local go_sem] store_one B_match B_store S_match S_store

theorem part_16 {t : TypeId} (ht : ∀ w, (isAgg t).run Try.prog w = .ok false w) (c : Array Value) (o : Nat) (v : Value) (h : c[o]? = some v) (w : World) : (part t c o).run Try.prog w = .ok v w := by
  unfold part
  simp [ht w, h]
theorem eqin_ev_of {t : TypeId} (e : Ev) (w : World)
    (hrun : (Op.equalIn 10000 t (.agg (evC e)) (.agg (evC e))).run Try.prog w = (Op.eqFields 9999 (evC e) (evC e) (Try.prog.fieldsOf t).toList).run Try.prog w)
    (hfs : (Try.prog.fieldsOf t).toList.map (fun f => (f.name, f.type, f.offset)) = [("Kind", 3, 0), ("Op", 3, 1), ("Fin", 4, 2), ("Len", 3, 3), ("Text", 9, 4)]) : (Op.equalIn 10000 t (.agg (evC e)) (.agg (evC e))).run Try.prog w = .ok true w := by
  rw [hrun]
  have b4 : ∀ b : Bool, (Op.equalIn 9999 4 (.bool b) (.bool b)).run Try.prog w = .ok true w := fun b => by rw [run_equalIn_bool' w 9998 4 b b Try.underlying4]; simp
  have b3 : ∀ n : Int, (Op.equalIn 9999 3 (.int .i64 n) (.int .i64 n)).run Try.prog w = .ok true w := fun n => by rw [run_equalIn_int w 9998 3 .i64 .i64 n n Try.underlying3]; simp
  have b9 : ∀ s : List UInt8, (Op.equalIn 9999 9 (S s) (S s)).run Try.prog w = .ok true w := fun s => by unfold S; rw [run_equalIn_string w 9998 9 _ _ Try.underlying9]; simp
  have p0 := part_16 Try.isAgg3 (evC e) 0 (.int .i64 e.kind) rfl w
  have p1 := part_16 Try.isAgg3 (evC e) 1 (.int .i64 e.op) rfl w
  have p2 := part_16 Try.isAgg4 (evC e) 2 (.bool e.fin) rfl w
  have p3 := part_16 Try.isAgg3 (evC e) 3 (.int .i64 e.len) rfl w
  have p4 := part_16 Try.isAgg9 (evC e) 4 (S e.text) rfl w
  obtain ⟨l, hl⟩ : ∃ l, l = (Try.prog.fieldsOf t).toList := ⟨_, rfl⟩
  rw [← hl] at hfs ⊢
  rcases l with _ | ⟨f0, _ | ⟨f1, _ | ⟨f2, _ | ⟨f3, _ | ⟨f4, _ | ⟨f5, l⟩⟩⟩⟩⟩⟩
  all_goals first | (simp at hfs; done) | skip
  simp only [List.map_cons, List.map_nil, List.cons.injEq, Prod.mk.injEq, and_true] at hfs
  obtain ⟨⟨n0, t0, o0⟩, ⟨n1, t1, o1⟩, ⟨n2, t2, o2⟩, ⟨n3, t3, o3⟩, ⟨n4, t4, o4⟩⟩ := hfs
  simp only [Op.eqFields, n0, t0, o0, n1, t1, o1, n2, t2, o2, n3, t3, o3, n4, t4, o4, Sem.run_ite, Sem.run_bind, p0, p1, p2, p3, p4, b4, b3, b9, Result.andThen_ok, Sem.run_pure]
  simp
theorem eqin_evF (e : Ev) (w : World) : (Op.equalIn 10000 29 (.agg (evC e)) (.agg (evC e))).run Try.prog w = .ok true w :=
  eqin_ev_of e w (run_equalIn_agg w 9999 29 _ _ (by kernel_rfl) (by kernel_rfl)) (by kernel_rfl)
theorem eqin_evR (e : Ev) (w : World) : (Op.equalIn 10000 62 (.agg (evC e)) (.agg (evC e))).run Try.prog w = .ok true w :=
  eqin_ev_of e w (run_equalIn_agg w 9999 62 _ _ (by kernel_rfl) (by kernel_rfl)) (by kernel_rfl)
set_option maxRecDepth 100000 in
set_option maxHeartbeats 1000000 in
theorem same16_true {l : List Ev} {V1 V2 : Value} {b1 b2 : Nat} {w : World} (h1 : EvR 29 b1 V1 l w) (h2 : EvR 62 b2 V2 l w) (hl : l.length ≤ 1000000) :
    Calls Try.prog 18 #[V1, V2] w fun e w' => e = .returned (.bool true) ∧ Below w.heap.size w w' := by
  obtain ⟨a1, c1, hv1, hr1⟩ := h1.form
  obtain ⟨a2, c2, hv2, hr2⟩ := h2.form
  subst hv1
  subst hv2
  have hl1 := fun W => h1.len Try.underlying25 3 W
  have hl2 := fun W => h2.len Try.underlying33 3 W
  obtain ⟨N, hN⟩ : ∃ N, N = l.length := ⟨_, rfl⟩
  rw [← hN] at hl1 hl2 hl ⊢
  have HR := Lib.hid (And.intro hr1 (And.intro hr2 hN))
  clear hr1 hr2 h1 h2
  have g0 : ((N : Int) != (N : Int)) = false := by simp
  clear hN
  go_enter Try.func18, Try.ntmps18
  go_wp2
  go_loopw [5] (fun iv wr => ∃ i : Nat, i ≤ N ∧ iv = .int .i64 (i : Int) ∧ Hid (Below w.heap.size w wr)) (fun iv _ => N - (intOf iv).toNat)
  case atStart => exact ⟨0, Nat.zero_le _, rfl, Lib.hid (Below.refl _ _)⟩
  case round =>
    obtain ⟨i, hi, rfl, HB⟩ := hrel
    by_cases hlt : i < N
    · have g1 : decide ((i : Int) < (N : Int)) = true := decide_eq_true (by omega)
      have hil : i < l.length := by have := HR.out.2.2; omega
      obtain ⟨e, he⟩ : ∃ e, l[i]? = some e := ⟨l[i]'hil, List.getElem?_eq_getElem _⟩
      have hne : l ≠ [] := fun e => by rw [e] at hil; exact absurd hil (Nat.not_lt_zero _)
      obtain ⟨k1, rfl, -, hk1, y⟩ := HR.out.1 hne
      obtain ⟨k2, rfl, -, hk2, z⟩ := HR.out.2.1 hne
      have hia := fun W => indexEv Try.underlying25 (fun w => Try.sizeOf29 w) k1 N c1 i hlt W
      have hib := fun W => indexEv Try.underlying33 (fun w => Try.sizeOf62 w) k2 N c2 i hlt W
      have eF := eqin_evF e
      have eR := eqin_evR e
      have gR : ∀ x y w', (eqGuard .neq 62 x y (.agg (evC e)) (.agg (evC e))).run Try.prog w' = .ok () w' := fun x y w' => run_eqGuard_agg w' .neq 62 x y _ _ (by kernel_rfl)
      obtain ⟨kd, op, fin, ln, tx⟩ := e
      unfold evC at eF eR gR
      dsimp only at eF eR gR
      have ya0 : wr.cell? ⟨k1, i * 5 + 0, none⟩ = some (.int .i64 (kd : Int)) := (HB.out.cell (p := ⟨k1, i * 5 + 0, none⟩) hk1).trans (y i _ 0 _ he rfl).1
      have ya1 : wr.cell? ⟨k1, i * 5 + 1, none⟩ = some (.int .i64 (op : Int)) := (HB.out.cell (p := ⟨k1, i * 5 + 1, none⟩) hk1).trans (y i _ 1 _ he rfl).1
      have ya2 : wr.cell? ⟨k1, i * 5 + 2, none⟩ = some (.bool fin) := (HB.out.cell (p := ⟨k1, i * 5 + 2, none⟩) hk1).trans (y i _ 2 _ he rfl).1
      have ya3 : wr.cell? ⟨k1, i * 5 + 3, none⟩ = some (.int .i64 (ln : Int)) := (HB.out.cell (p := ⟨k1, i * 5 + 3, none⟩) hk1).trans (y i _ 3 _ he rfl).1
      have ya4 : wr.cell? ⟨k1, i * 5 + 4, none⟩ = some (S tx) := (HB.out.cell (p := ⟨k1, i * 5 + 4, none⟩) hk1).trans (y i _ 4 _ he rfl).1
      have za0 : wr.cell? ⟨k2, i * 5 + 0, none⟩ = some (.int .i64 (kd : Int)) := (HB.out.cell (p := ⟨k2, i * 5 + 0, none⟩) hk2).trans (z i _ 0 _ he rfl).1
      have za1 : wr.cell? ⟨k2, i * 5 + 1, none⟩ = some (.int .i64 (op : Int)) := (HB.out.cell (p := ⟨k2, i * 5 + 1, none⟩) hk2).trans (z i _ 1 _ he rfl).1
      have za2 : wr.cell? ⟨k2, i * 5 + 2, none⟩ = some (.bool fin) := (HB.out.cell (p := ⟨k2, i * 5 + 2, none⟩) hk2).trans (z i _ 2 _ he rfl).1
      have za3 : wr.cell? ⟨k2, i * 5 + 3, none⟩ = some (.int .i64 (ln : Int)) := (HB.out.cell (p := ⟨k2, i * 5 + 3, none⟩) hk2).trans (z i _ 3 _ he rfl).1
      have za4 : wr.cell? ⟨k2, i * 5 + 4, none⟩ = some (S tx) := (HB.out.cell (p := ⟨k2, i * 5 + 4, none⟩) hk2).trans (z i _ 4 _ he rfl).1
      rw [Nat.add_zero] at ya0 za0
      obtain ⟨KB, hKB⟩ : ∃ x, x = i * 5 := ⟨_, rfl⟩
      rw [← hKB] at hia hib ya0 ya1 ya2 ya3 ya4 za0 za1 za2 za3 za4
      have hw1 : IntKind.i64.wrap ((i : Int) + 1) = (i : Int) + 1 := by rw [IntKind.wrap_i64]; omega
      clear hKB y z he hne hil hk1 hk2 HR
      go_wp2
      go_quiet (fail)
      go_wp2
      exact ⟨⟨i + 1, by omega, by go_num, Lib.hid ⟨HB.out.os, HB.out.tape, HB.out.output, HB.out.size, HB.out.block⟩⟩, by simp [intOf]; omega⟩
    · obtain rfl : i = N := by omega
      have g1 : decide ((i : Int) < (i : Int)) = false := decide_eq_false (by omega)
      go_wp2
      go_ret
      exact ⟨rfl, HB.out⟩
end Go.Proofs.Ytlmolmmhkddpaaa
