/- Frames that came in as an argument: opened (stage 16). -/
import Derived.Test.YtlmolmmhkddpaaaHp
import Derived.Test.YtlmolmmhkddpaaaOr
import Derived.Test.YtlmolmmhkddpaaaEy
namespace Go.Proofs.Ytlmolmmhkddpaaa
open Go.RowKit Go.ChangeShapes
instance inhFrm : Inhabited Frm := ⟨frm0⟩
theorem cellsFR : Try.prog.cellsOf 51 = 9 := by kernel_rfl
section
variable {H : Type} {enc : TypeId × Value → H} {W : World}
theorem open_frames {fuel : Nat} {v : Value} {y : DataW H × List MemPlace} (hf : DataW.trod enc Try.prog W 0 (fun _ => true) true fuel 48 [v] = some y) :
    ∃ a l c b o, v = .slice a (List.length l) c ∧ FrsA W (.slice a (List.length l) c) l b o := by
  obtain ⟨a, l, c, b, o, hv, hc, ha, hcell⟩ := open_rowK Try.underlying48 cellsFR (by decide) (fun s : Frm => (frC s).toList) (fun _ => by simp [frC]) (fun n cs y _ h => open_frame h) hf
  refine ⟨a, l, c, b, o, hv, fun T w' => by simp [Builtin.len_, run_underlying Try.underlying48, Result.andThen, goInt], fun i hi w' => ?_, fun i s hs j u hu => hcell i s hs j u (by simpa using hu), ⟨a, c, rfl⟩⟩
  rw [ha (fun e => by rw [e] at hi; simp at hi)]
  exact run_index_at (P := Try.prog) Try.underlying48 (fun w => Try.sizeOf51 w) b o l.length c i hi w'
end
end Go.Proofs.Ytlmolmmhkddpaaa
