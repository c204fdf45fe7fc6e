/- A row of routes that came in as an argument. -/
import Derived.Test.YtendejpkdjkmnaaGreatDoorOr
import Derived.Test.YtendejpkdjkmnaaGreatDoorJc
namespace Go.Proofs.YtendejpkdjkmnaaGreatDoor
open Go.RowKit Go.ChangeShapes

instance inhRt : Inhabited Rt := ⟨⟨[], [], 0, []⟩⟩
section
variable {H : Type} {enc : TypeId × Value → H} {W : World}
theorem cellsOU : Tryz.prog.cellsOf 40 = 4 := by kernel_rfl
set_option maxRecDepth 100000 in
theorem el_route (n : Nat) (cs : List Value) (y : DataW H × List MemPlace) (_ : cs.length = 4) (hf : DataW.trod enc Tryz.prog W 0 (fun _ => true) true n 40 cs = some y) : ∃ s : Rt, cs = (rtC s).toList := by
  obtain ⟨xs, n, rfl, hy, hl, hlen, hfld⟩ := DataW.trod_struct Tryz.underlying40 hf
  subst hy
  rw [cellsOU] at hl
  match cs, hl, xs, hlen with
  | [c0, c1, c2, c3], _, [x0, x1, x2, x3], _ =>
    have h0 : DataW.trod enc Tryz.prog W 0 (fun _ => true) true n 9 (List.take (Tryz.prog.cellsOf 9) [c0, c1, c2, c3]) = some x0 := hfld 0 _ rfl
    have h1 : DataW.trod enc Tryz.prog W 0 (fun _ => true) true n 9 (List.take (Tryz.prog.cellsOf 9) [c1, c2, c3]) = some x1 := hfld 1 _ rfl
    have h2 : DataW.trod enc Tryz.prog W 0 (fun _ => true) true n 3 (List.take (Tryz.prog.cellsOf 3) [c2, c3]) = some x2 := hfld 2 _ rfl
    have h3 : DataW.trod enc Tryz.prog W 0 (fun _ => true) true n 9 (List.take (Tryz.prog.cellsOf 9) [c3]) = some x3 := hfld 3 _ rfl
    rw [cellsO9] at h0 h1 h3
    rw [cellsO3] at h2
    obtain ⟨a, rfl⟩ := textO (v := c0) h0
    obtain ⟨b, rfl⟩ := textO (v := c1) h1
    obtain ⟨k, rfl, _⟩ := field_num (v := c2) Tryz.underlying3 h2
    obtain ⟨t, rfl⟩ := textO (v := c3) h3
    exact ⟨⟨a, b, k, t⟩, rfl⟩
/-- A row of routes. -/
theorem open_routes {fuel : Nat} {v : Value} {y : DataW H × List MemPlace} (hf : DataW.trod enc Tryz.prog W 0 (fun _ => true) true fuel 33 [v] = some y) :
    ∃ a l c b o, v = .slice a (List.length l) c ∧ RoA W (.slice a (List.length l) c) l b o := by
  obtain ⟨a, l, c, b, o, hv, hc, ha, hcell⟩ := open_rowK Tryz.underlying33 cellsOU (by decide) (fun s : Rt => (rtC s).toList) (fun _ => by simp [rtC]) (fun n cs y => el_route n cs y) hf
  refine ⟨a, l, c, b, o, hv, fun T w' => by simp [Builtin.len_, run_underlying Tryz.underlying33, Result.andThen, goInt], fun i hi w' => ?_, fun i s hs j u hu => hcell i s hs j u (by simpa using hu), ⟨a, c, rfl, hc, ha⟩⟩
  rw [ha (fun e => by rw [e] at hi; simp at hi)]
  exact run_index_at (P := Tryz.prog) Tryz.underlying33 (fun w => Tryz.sizeOf40 w) b o l.length c i hi w'
end
end Go.Proofs.YtendejpkdjkmnaaGreatDoor
