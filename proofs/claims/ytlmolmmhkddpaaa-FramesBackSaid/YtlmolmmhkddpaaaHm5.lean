/- Frames as bytes, told again (stage 16): as list functions. -/
import Derived.Test.YtlmolmmhkddpaaaHm3
namespace Go.Proofs.Ytlmolmmhkddpaaa
open Go.RowKit
/-- What is told of a frame whose bytes are all there. -/
def evsF (f : Frm) : List Ev := beginE (hdOf f) :: ((if 0 < f.data.length then [pieceE f.data] else []) ++ [endE])
theorem back_one {m : Bool} {f : Frm} (h : okFr f = true) (hn : f.data.length < 256 ^ 8) (hm : mayF (hdOf f) m = true) (rest : List UInt8) : allF (atS m (bytesF f ++ rest)) = evsF f ++ allF (atS m rest) ∧ endF (atS m (bytesF f ++ rest)) = endF (atS m rest) := by
  have e : bytesF f ++ rest = headB f ++ (maskN f.key 0 f.data ++ rest) := by unfold bytesF; rw [List.append_assoc]
  have n1 : nextF (atS m (bytesF f ++ rest)) = some (beginE (hdOf f), ⟨m, false, some (f.key, 0, f.data.length), maskN f.key 0 f.data ++ rest⟩) := by
    unfold nextF atS
    dsimp only
    rw [if_neg Bool.false_ne_true, e, head_back h hn]
    dsimp only
    rw [hm, if_pos rfl, List.drop_left]; rfl
  have n3 : ∀ a, nextF ⟨m, false, some (f.key, a, 0), rest⟩ = some (endE, atS m rest) := fun a => by
    unfold nextF
    dsimp only
    rw [if_neg Bool.false_ne_true, if_pos rfl]; rfl
  obtain ⟨a1, b1⟩ := all_some n1
  rw [a1, b1]
  unfold evsF
  by_cases h0 : 0 < f.data.length
  · rw [if_pos h0]
    have hl : (maskN f.key 0 f.data).length = f.data.length := mask_len _ _ _
    have hr : maskN f.key 0 f.data ++ rest ≠ [] := fun e => by
      have := (List.append_eq_nil_iff.1 e).1
      rw [this] at hl; simp at hl; omega
    have n2 := next_piece (m := m) (k := f.key) (a := 0) (len := f.data.length) (by omega) hr
    rw [show (maskN f.key 0 f.data ++ rest).take f.data.length = maskN f.key 0 f.data by rw [← hl, List.take_left], show (maskN f.key 0 f.data ++ rest).drop f.data.length = rest by rw [← hl, List.drop_left], mask_two, hl, Nat.zero_add, Nat.sub_self] at n2
    obtain ⟨a2, b2⟩ := all_some n2
    obtain ⟨a3, b3⟩ := all_some (n3 f.data.length)
    rw [a2, b2, a3, b3]
    exact ⟨rfl, rfl⟩
  · have hd : f.data = [] := List.length_eq_zero_iff.1 (by omega)
    rw [if_neg h0, hd]
    obtain ⟨a3, b3⟩ := all_some (n3 0)
    show beginE (hdOf f) :: allF ⟨m, false, some (f.key, 0, 0), rest⟩ = _ ∧ endF ⟨m, false, some (f.key, 0, 0), rest⟩ = _
    rw [a3, b3]
    exact ⟨rfl, rfl⟩
theorem back_all (m : Bool) : ∀ (fs : List Frm), (∀ f ∈ fs, okFr f = true ∧ f.data.length < 256 ^ 8 ∧ mayF (hdOf f) m = true) → allF (atS m (fs.flatMap bytesF)) = fs.flatMap evsF ∧ endF (atS m (fs.flatMap bytesF)) = atS m []
  | [], _ => by
    have h := all_none (st := atS m []) (by unfold nextF atS; dsimp only; rw [if_neg Bool.false_ne_true]; rfl)
    exact h
  | f :: fs, h => by
    obtain ⟨h1, h2, h3⟩ := h f (List.mem_cons_self ..)
    obtain ⟨i1, i2⟩ := back_all m fs (fun x hx => h x (List.mem_cons_of_mem _ hx))
    obtain ⟨a1, a2⟩ := back_one h1 h2 h3 (fs.flatMap bytesF)
    rw [List.flatMap_cons, List.flatMap_cons, a1, a2, i1, i2]
    exact ⟨rfl, rfl⟩
/-- How the statement's walk counts: the frame that is under way, and its data so far. -/
def stepB (x : Nat × List UInt8) (e : Ev) : Nat × List UInt8 := if e.kind = 1 then (x.1, []) else if e.kind = 2 then (x.1, x.2 ++ e.text) else (x.1 + 1, x.2)
theorem fold_one (f : Frm) (x : Nat × List UInt8) : (evsF f).foldl stepB x = (x.1 + 1, f.data) := by
  unfold evsF
  by_cases h0 : 0 < f.data.length
  · rw [if_pos h0]; simp [stepB, beginE, pieceE, endE]
  · have hd : f.data = [] := List.length_eq_zero_iff.1 (by omega)
    rw [if_neg h0, hd]; simp [stepB, beginE, endE]
theorem fold_all : ∀ (fs : List Frm) (x : Nat × List UInt8), ((fs.flatMap evsF).foldl stepB x).1 = x.1 + fs.length
  | [], _ => rfl
  | f :: fs, x => by rw [List.flatMap_cons, List.foldl_append, fold_one, fold_all fs, List.length_cons]; dsimp only; omega
theorem back_pos : ∀ (fs : List Frm) (x : Nat × List UInt8) (pre : List Ev) (e : Ev), pre ++ [e] <+: fs.flatMap evsF → ∃ j f, fs[j]? = some f ∧ (pre.foldl stepB x).1 = x.1 + j ∧
    (e = beginE (hdOf f) ∨ (e = pieceE f.data ∧ (pre.foldl stepB x).2 = []) ∨ (e = endE ∧ (pre.foldl stepB x).2 = f.data))
  | [], _, pre, e, h => by have := h.length_le; simp at this
  | f :: fs, x, pre, e, h => by
    rw [List.flatMap_cons] at h
    have deep : ∀ pre', pre = evsF f ++ pre' → pre' ++ [e] <+: fs.flatMap evsF → ∃ j g, (f :: fs)[j]? = some g ∧ (pre.foldl stepB x).1 = x.1 + j ∧
        (e = beginE (hdOf g) ∨ (e = pieceE g.data ∧ (pre.foldl stepB x).2 = []) ∨ (e = endE ∧ (pre.foldl stepB x).2 = g.data)) := fun pre' hp h' => by
      obtain ⟨j, g, h1, h2, h3⟩ := back_pos fs (x.1 + 1, f.data) pre' e h'
      have hf : pre.foldl stepB x = pre'.foldl stepB (x.1 + 1, f.data) := by rw [hp, List.foldl_append, fold_one]
      rw [hf]
      exact ⟨j + 1, g, by rw [List.getElem?_cons_succ]; exact h1, by rw [h2]; dsimp only; omega, h3⟩
    by_cases h0 : 0 < f.data.length
    · have he : evsF f = [beginE (hdOf f), pieceE f.data, endE] := by unfold evsF; rw [if_pos h0]; rfl
      rw [he] at h deep
      rcases pre with _ | ⟨x1, _ | ⟨x2, _ | ⟨x3, pre'⟩⟩⟩
      · simp only [List.nil_append, List.cons_append, List.cons_prefix_cons] at h
        exact ⟨0, f, rfl, rfl, .inl h.1⟩
      · simp only [List.nil_append, List.cons_append, List.cons_prefix_cons] at h
        refine ⟨0, f, rfl, ?_, .inr (.inl ⟨h.2.1, ?_⟩)⟩ <;> (rw [h.1]; simp [stepB, beginE])
      · simp only [List.nil_append, List.cons_append, List.cons_prefix_cons] at h
        refine ⟨0, f, rfl, ?_, .inr (.inr ⟨h.2.2.1, ?_⟩)⟩ <;> (rw [h.1, h.2.1]; simp [stepB, beginE, pieceE])
      · simp only [List.nil_append, List.cons_append, List.cons_prefix_cons] at h
        exact deep pre' (by rw [h.1, h.2.1, h.2.2.1]; rfl) h.2.2.2
    · have hd : f.data = [] := List.length_eq_zero_iff.1 (by omega)
      have he : evsF f = [beginE (hdOf f), endE] := by unfold evsF; rw [if_neg h0]; rfl
      rw [he] at h deep
      rcases pre with _ | ⟨x1, _ | ⟨x2, pre'⟩⟩
      · simp only [List.nil_append, List.cons_append, List.cons_prefix_cons] at h
        exact ⟨0, f, rfl, rfl, .inl h.1⟩
      · simp only [List.nil_append, List.cons_append, List.cons_prefix_cons] at h
        refine ⟨0, f, rfl, ?_, .inr (.inr ⟨h.2.1, ?_⟩)⟩
        · rw [h.1]; simp [stepB, beginE]
        · rw [h.1, hd]; simp [stepB, beginE]
      · simp only [List.nil_append, List.cons_append, List.cons_prefix_cons] at h
        exact deep pre' (by rw [h.1, h.2.1]; rfl) h.2.2
end Go.Proofs.Ytlmolmmhkddpaaa
