/- A row of steps that came in as an argument. -/
import Derived.Test.YtbnlkjoblngakaaDoorOr
import Derived.Test.YtbnlkjoblngakaaDoorKa
namespace Go.Proofs.YtbnlkjoblngakaaDoor
open Go.RowKit Go.ChangeShapes

instance inhStp : Inhabited Stp := ⟨⟨0, [], [], 0⟩⟩
section
variable {H : Type} {enc : TypeId × Value → H} {W : World}
theorem cellsOT : Tryd.prog.cellsOf 35 = 4 := by kernel_rfl
set_option maxRecDepth 100000 in
theorem el_step (n : Nat) (cs : List Value) (y : DataW H × List MemPlace) (_ : cs.length = 4) (hf : DataW.trod enc Tryd.prog W 0 (fun _ => true) true n 35 cs = some y) : ∃ s : Stp, cs = (stC s).toList := by
  obtain ⟨xs, n, rfl, hy, hl, hlen, hfld⟩ := DataW.trod_struct Tryd.underlying35 hf
  subst hy
  rw [cellsOT] at hl
  match cs, hl, xs, hlen with
  | [c0, c1, c2, c3], _, [x0, x1, x2, x3], _ =>
    have h0 : DataW.trod enc Tryd.prog W 0 (fun _ => true) true n 3 (List.take (Tryd.prog.cellsOf 3) [c0, c1, c2, c3]) = some x0 := hfld 0 _ rfl
    have h1 : DataW.trod enc Tryd.prog W 0 (fun _ => true) true n 9 (List.take (Tryd.prog.cellsOf 9) [c1, c2, c3]) = some x1 := hfld 1 _ rfl
    have h2 : DataW.trod enc Tryd.prog W 0 (fun _ => true) true n 9 (List.take (Tryd.prog.cellsOf 9) [c2, c3]) = some x2 := hfld 2 _ rfl
    have h3 : DataW.trod enc Tryd.prog W 0 (fun _ => true) true n 3 (List.take (Tryd.prog.cellsOf 3) [c3]) = some x3 := hfld 3 _ rfl
    rw [cellsO9] at h1 h2
    rw [cellsO3] at h0 h3
    obtain ⟨k, rfl, _⟩ := field_num (v := c0) Tryd.underlying3 h0
    obtain ⟨a, rfl⟩ := textO (v := c1) h1
    obtain ⟨b, rfl⟩ := textO (v := c2) h2
    obtain ⟨m, rfl, _⟩ := field_num (v := c3) Tryd.underlying3 h3
    exact ⟨⟨k, a, b, m⟩, rfl⟩
/-- A row of steps. -/
theorem open_steps {fuel : Nat} {v : Value} {y : DataW H × List MemPlace} (hf : DataW.trod enc Tryd.prog W 0 (fun _ => true) true fuel 22 [v] = some y) :
    ∃ a l c b o, v = .slice a (List.length l) c ∧ StA W (.slice a (List.length l) c) l b o := by
  obtain ⟨a, l, c, b, o, hv, hc, ha, hcell⟩ := open_rowK Tryd.underlying22 cellsOT (by decide) (fun s : Stp => (stC s).toList) (fun _ => by simp [stC]) (fun n cs y => el_step n cs y) hf
  refine ⟨a, l, c, b, o, hv, fun T w' => by simp [Builtin.len_, run_underlying Tryd.underlying22, Result.andThen, goInt], fun i hi w' => ?_, fun i s hs j u hu => hcell i s hs j u (by simpa using hu), ⟨a, c, rfl, hc, ha⟩⟩
  rw [ha (fun e => by rw [e] at hi; simp at hi)]
  exact run_index_at (P := Tryd.prog) Tryd.underlying22 (fun w => Tryd.sizeOf35 w) b o l.length c i hi w'
end
end Go.Proofs.YtbnlkjoblngakaaDoor
