/- Rows of fields that grow; a request that lacks something (stage 17). (mkdj.py writes it.) -/
import Derived.Test.YtnaekjmlikhglaaDoorDh
import Derived.Test.YtnaekjmlikhglaaDoorDi
import Derived.Deep.Upon
namespace Go.Proofs.YtnaekjmlikhglaaDoor
open Go.RowKit
attribute [local go_sem] store_one B_match B_store S_match S_store

theorem dcells_len (fs : DFds) : (fcells fs).length = fs.length * 2 := by
  unfold fcells
  induction fs with
  | nil => rfl
  | cons f r ih => rw [List.flatMap_cons, List.length_append, ih, List.length_cons]; simp; omega
theorem dcells_one (fs : DFds) : ∀ u ∈ fcells fs, u.oneCell' = true := by
  intro u hu
  unfold fcells at hu
  obtain ⟨f, _, h⟩ := List.mem_flatMap.1 hu
  simp only [List.mem_cons, List.not_mem_nil, or_false] at h
  rcases h with rfl | rfl <;> rfl
theorem dcells_app (xs ys : DFds) : fcells (xs ++ ys) = fcells xs ++ fcells ys := by unfold fcells; rw [List.flatMap_append]
/-- Fields stand from a place on. -/
def CellsD (w : World) (b o : Nat) (fs : DFds) : Prop := ∀ j u, (fcells fs)[j]? = some u → w.cell? ⟨b, o + j, none⟩ = some u
theorem CellsD.of_row {w : World} {b : Nat} {cs : Array Value} {t : TypeId} {fs : DFds} (h : Row w b cs t) (hc : cs.toList = fcells fs) : CellsD w b 0 fs := fun j u hu => by
  rw [Nat.zero_add, cell_of_row w b j _ _ (0, 0) h, ← Array.getElem?_toList, hc]; exact hu
theorem CellsD.take {w : World} {b o : Nat} {fs : DFds} (h : CellsD w b o fs) (i : Nat) : CellsD w b o (fs.take i) := fun j u hu => h j u (by
  have e : fcells fs = fcells (fs.take i) ++ fcells (fs.drop i) := by rw [← dcells_app, List.take_append_drop]
  rw [e, List.getElem?_append_left (List.getElem?_eq_some_iff.1 hu).1]; exact hu)
theorem CellsD.drop {w : World} {b o : Nat} {fs : DFds} (h : CellsD w b o fs) (i : Nat) (hi : i ≤ fs.length) : CellsD w b (o + i * 2) (fs.drop i) := fun j u hu => by
  have e : fcells fs = fcells (fs.take i) ++ fcells (fs.drop i) := by rw [← dcells_app, List.take_append_drop]
  have hl : (fcells (fs.take i)).length = i * 2 := by rw [dcells_len, List.length_take, Nat.min_eq_left hi]
  have := h (i * 2 + j) u (by rw [e, List.getElem?_append_right (by omega), hl, Nat.add_sub_cancel_left]; exact hu)
  rw [Nat.add_assoc]; exact this
set_option maxHeartbeats 1000000 in
/-- Fields appended to a row of one's own. -/
theorem run_addD {W : World} {base : Nat} {V : Value} {fs : DFds} (h : W.ownsRow base 37 2 V fs.length (fcells fs)) (hl : fs.length ≤ 1000) (hb : base ≤ W.heap.size) {b o : Nat} {fs2 : DFds} (hc : CellsD W b o fs2) (hl2 : fs2.length ≤ 1000) (n2 c : Nat) (hn2 : n2 = fs2.length) (ty : TypeId) :
    ∃ a cap W', (Builtin.append_ #[22, 22] ty #[V, .slice (some ⟨b, o, none⟩) n2 c]).run Tryd.prog W = .ok (.slice a (fs ++ fs2).length cap) W' ∧ W'.ownsRow base 37 2 (.slice a (fs ++ fs2).length cap) (fs ++ fs2).length (fcells (fs ++ fs2)) ∧ Below base W W' := by
  subst hn2
  obtain ⟨i, z, hi, hz, hsz, hby, hzs⟩ := eleF
  have hlo : ∀ k, V.ownBlock = some k → base ≤ k := fun k hk => (World.ownsRow.lt h k hk).1
  cases fs2 with
  | nil =>
    rw [List.append_nil]
    rcases h.2 with ⟨hv, h0⟩ | ⟨g, cap, cur, hv, hbg, hg, hn, hr⟩
    · subst hv
      exact ⟨_, _, W, run_append_nothing (P := Tryd.prog) W 22 22 ty 37 i Tryd.underlying22 hi none 0 0 (Nat.le_refl _) _ (.ofSlice _ (e' := 37) Tryd.underlying22 ⟨b, o, none⟩ 0 c [] (by simp) (fun j u hu => by rw [List.getElem?_nil] at hu; cases hu) (fun u hu => by cases hu)) |>.trans (by rw [h0]), by rw [h0] at h ⊢; exact h, Below.refl _ _⟩
    · subst hv
      exact ⟨_, _, W, run_append_nothing (P := Tryd.prog) W 22 22 ty 37 i Tryd.underlying22 hi _ fs.length cap hn _ (.ofSlice _ (e' := 37) Tryd.underlying22 ⟨b, o, none⟩ 0 c [] (by simp) (fun j u hu => by rw [List.getElem?_nil] at hu; cases hu) (fun u hu => by cases hu)), h, Below.refl _ _⟩
  | cons f r =>
    have h0 : 0 < (f :: r).length := by simp
    have hbb : (fs.length + (f :: r).length) * i.bytes ≤ 140737488355328 := by
      have : (fs.length + (f :: r).length) * i.bytes ≤ 2000 * 4096 := Nat.mul_le_mul (by omega) hby
      omega
    obtain ⟨g, cap, w', hr, h2, h3, _, _⟩ := run_append_lies (P := Tryd.prog) W 22 ty base 37 i z 2 i.bytes Tryd.underlying22 hi hz hsz rfl hzs (by omega) V fs.length (fcells fs) h ⟨b, o, none⟩ (f :: r).length c (fcells (f :: r)) (dcells_len _) (fun j u hu => by
      rw [Addr.add_mid]; exact hc j u hu) (dcells_one _) h0 (by simp only [maxLen]; omega) hbb hb _ rfl
    rw [← dcells_app, ← List.length_append] at h2
    rw [← List.length_append] at hr
    exact ⟨_, cap, w', hr, h2, below_grown (Below.refl _ _ |>.mono hb) h3 hlo hb⟩
theorem own_empty (W : World) : (W.alloc (.cells #[] 37)).ownsRow W.heap.size 37 2 (.slice (some ⟨W.heap.size, 0, none⟩) 0 0) ([] : DFds).length (fcells []) :=
  ⟨rfl, .inr ⟨W.heap.size, 0, #[], rfl, Nat.le_refl _, row_new W _ _, Nat.le_refl _, by simp [maxLen], rfl, rfl⟩⟩
theorem slice5_to (g i : Nat) (h : i < 5) (w : World) : (Instr.slice 22 (.slice (some ⟨g, 0, none⟩) 5 5) none (some (.int .i64 (i : Int))) none).run Tryd.prog w = .ok (.slice (some ⟨g, 0, none⟩) i 5) w := by
  have : i = 0 ∨ i = 1 ∨ i = 2 ∨ i = 3 ∨ i = 4 := by omega
  rcases this with rfl | rfl | rfl | rfl | rfl <;> (go_simp)
theorem slice5_from (g i j : Nat) (h : i < 5) (hj : j = i + 1) : ∃ o, (∀ w : World, (Instr.slice 22 (.slice (some ⟨g, 0, none⟩) 5 5) (some (.int .i64 (j : Int))) none none).run Tryd.prog w = .ok (.slice (some ⟨g, o, none⟩) (5 - j) (5 - j)) w) ∧ (o = 0 + j * 2 ∨ j = 5) := by
  subst hj
  have : i = 0 ∨ i = 1 ∨ i = 2 ∨ i = 3 ∨ i = 4 := by omega
  rcases this with rfl | rfl | rfl | rfl | rfl
  · exact ⟨2, fun w => by go_simp, .inl rfl⟩
  · exact ⟨4, fun w => by go_simp, .inl rfl⟩
  · exact ⟨6, fun w => by go_simp, .inl rfl⟩
  · exact ⟨8, fun w => by go_simp, .inl rfl⟩
  · exact ⟨0, fun w => by go_simp, .inr rfl⟩
theorem CellsD.none (w : World) (b o : Nat) : CellsD w b o [] := fun j u hu => by cases hu
theorem CellsD.fa {w : World} {base : Nat} {V : Value} {fs : DFds} (h : w.ownsRow base 37 2 V fs.length (fcells fs)) : ∃ g, FA w V fs g 0 := by
  obtain ⟨g, hg, -⟩ := flds_at h
  exact ⟨g, hg.fa⟩
/-- The name of a field, its value. -/
def nameN (i : Nat) : DTx := ([[72, 111, 115, 116], [85, 112, 103, 114, 97, 100, 101], [67, 111, 110, 110, 101, 99, 116, 105, 111, 110], [83, 101, 99, 45, 87, 101, 98, 83, 111, 99, 107, 101, 116, 45, 75, 101, 121], [83, 101, 99, 45, 87, 101, 98, 83, 111, 99, 107, 101, 116, 45, 86, 101, 114, 115, 105, 111, 110]] : List DTx).getD i []
def valN (e v : DTx) (i : Nat) : DTx := ([[97], [119, 101, 98, 115, 111, 99, 107, 101, 116], [107, 101, 101, 112, 45, 97, 108, 105, 118, 101, 44, 32, 85, 112, 103, 114, 97, 100, 101], e, v] : List DTx).getD i []
theorem askV_at (e v : DTx) (i : Nat) (h : i < 5) : (askV e v)[i]? = some (nameN i, valN e v i) := by
  have : i = 0 ∨ i = 1 ∨ i = 2 ∨ i = 3 ∨ i = 4 := by omega
  rcases this with rfl | rfl | rfl | rfl | rfl <;> rfl
def lessV (e v : DTx) (i : Nat) : DFds := (askV e v).take i ++ (askV e v).drop (i + 1)
def twiceV (e v : DTx) (i : Nat) : DFds := askV e v ++ [((nameN i).map lowB, valN e v i)]
theorem no_ask (m : DTx) (v : Int) (fs : DFds) (h : manyF fs hostD = [] ∨ manyF fs upD = [] ∨ manyF fs conD = [] ∨ manyF fs keyD = [] ∨ manyF fs verD = []) : checkF m v fs = ([], 400) := by
  refine check_no ?_
  unfold askF
  rcases h with h | h | h | h | h <;> rw [h] <;> simp [hasAny]
theorem less_check (m : DTx) (v' : Int) (e v : DTx) (i : Nat) (h : i < 5) : checkF m v' (lessV e v i) = ([], 400) := by
  have : i = 0 ∨ i = 1 ∨ i = 2 ∨ i = 3 ∨ i = 4 := by omega
  refine no_ask m v' _ ?_
  rcases this with rfl | rfl | rfl | rfl | rfl
  · left
    show manyF [([85, 112, 103, 114, 97, 100, 101], [119, 101, 98, 115, 111, 99, 107, 101, 116]), ([67, 111, 110, 110, 101, 99, 116, 105, 111, 110], [107, 101, 101, 112, 45, 97, 108, 105, 118, 101, 44, 32, 85, 112, 103, 114, 97, 100, 101]), ([83, 101, 99, 45, 87, 101, 98, 83, 111, 99, 107, 101, 116, 45, 75, 101, 121], e), ([83, 101, 99, 45, 87, 101, 98, 83, 111, 99, 107, 101, 116, 45, 86, 101, 114, 115, 105, 111, 110], v)] hostD = []
    rw [many_cons, many_cons, many_cons, many_cons, many_nil, if_neg (by dsimp only; decide +kernel), if_neg (by dsimp only; decide +kernel), if_neg (by dsimp only; decide +kernel), if_neg (by dsimp only; decide +kernel)]; rfl
  · right; left
    show manyF [([72, 111, 115, 116], [97]), ([67, 111, 110, 110, 101, 99, 116, 105, 111, 110], [107, 101, 101, 112, 45, 97, 108, 105, 118, 101, 44, 32, 85, 112, 103, 114, 97, 100, 101]), ([83, 101, 99, 45, 87, 101, 98, 83, 111, 99, 107, 101, 116, 45, 75, 101, 121], e), ([83, 101, 99, 45, 87, 101, 98, 83, 111, 99, 107, 101, 116, 45, 86, 101, 114, 115, 105, 111, 110], v)] upD = []
    rw [many_cons, many_cons, many_cons, many_cons, many_nil, if_neg (by dsimp only; decide +kernel), if_neg (by dsimp only; decide +kernel), if_neg (by dsimp only; decide +kernel), if_neg (by dsimp only; decide +kernel)]; rfl
  · right; right; left
    show manyF [([72, 111, 115, 116], [97]), ([85, 112, 103, 114, 97, 100, 101], [119, 101, 98, 115, 111, 99, 107, 101, 116]), ([83, 101, 99, 45, 87, 101, 98, 83, 111, 99, 107, 101, 116, 45, 75, 101, 121], e), ([83, 101, 99, 45, 87, 101, 98, 83, 111, 99, 107, 101, 116, 45, 86, 101, 114, 115, 105, 111, 110], v)] conD = []
    rw [many_cons, many_cons, many_cons, many_cons, many_nil, if_neg (by dsimp only; decide +kernel), if_neg (by dsimp only; decide +kernel), if_neg (by dsimp only; decide +kernel), if_neg (by dsimp only; decide +kernel)]; rfl
  · right; right; right; left
    show manyF [([72, 111, 115, 116], [97]), ([85, 112, 103, 114, 97, 100, 101], [119, 101, 98, 115, 111, 99, 107, 101, 116]), ([67, 111, 110, 110, 101, 99, 116, 105, 111, 110], [107, 101, 101, 112, 45, 97, 108, 105, 118, 101, 44, 32, 85, 112, 103, 114, 97, 100, 101]), ([83, 101, 99, 45, 87, 101, 98, 83, 111, 99, 107, 101, 116, 45, 86, 101, 114, 115, 105, 111, 110], v)] keyD = []
    rw [many_cons, many_cons, many_cons, many_cons, many_nil, if_neg (by dsimp only; decide +kernel), if_neg (by dsimp only; decide +kernel), if_neg (by dsimp only; decide +kernel), if_neg (by dsimp only; decide +kernel)]; rfl
  · right; right; right; right
    show manyF [([72, 111, 115, 116], [97]), ([85, 112, 103, 114, 97, 100, 101], [119, 101, 98, 115, 111, 99, 107, 101, 116]), ([67, 111, 110, 110, 101, 99, 116, 105, 111, 110], [107, 101, 101, 112, 45, 97, 108, 105, 118, 101, 44, 32, 85, 112, 103, 114, 97, 100, 101]), ([83, 101, 99, 45, 87, 101, 98, 83, 111, 99, 107, 101, 116, 45, 75, 101, 121], e)] verD = []
    rw [many_cons, many_cons, many_cons, many_cons, many_nil, if_neg (by dsimp only; decide +kernel), if_neg (by dsimp only; decide +kernel), if_neg (by dsimp only; decide +kernel), if_neg (by dsimp only; decide +kernel)]; rfl
theorem one_more (n : DTx) (i : Nat) (u : DTx) : manyF [((nameN i).map lowB, u)] n = if alikeF ((nameN i).map lowB) n = true then [u] else [] := by
  rw [many_cons, many_nil, List.append_nil]
theorem twice_two (m : DTx) (v' : Int) (e v : DTx) (i : Nat) (h : i = 0 ∨ i = 3 ∨ i = 4) : checkF m v' (twiceV e v i) = ([], 400) := by
  refine check_no ?_
  unfold askF twiceV
  rw [many_app, many_app, many_app, many_app, many_app, askV_host, askV_key, askV_ver, one_more, one_more, one_more, one_more, one_more]
  rcases h with rfl | rfl | rfl
  · rw [show alikeF ((nameN 0).map lowB) hostD = true by decide +kernel]; simp
  · rw [show alikeF ((nameN 3).map lowB) keyD = true by decide +kernel]; simp
  · rw [show alikeF ((nameN 4).map lowB) verD = true by decide +kernel]; simp
theorem has_more (a b : List DTx) (t : DTx) (h : hasAny a t = true) : hasAny (a ++ b) t = true := by
  unfold hasAny at *; rw [List.any_append, h]; rfl
theorem twice_may (k : DTx) (hk : k.length = 16) (i : Nat) (h : i = 1 ∨ i = 2) : checkF getD 11 (twiceV (bb.enc k) v13D i) = (accF (bb.enc k), 101) := by
  have e1 : alikeF ((nameN i).map lowB) hostD = false := by rcases h with rfl | rfl <;> decide +kernel
  have e2 : alikeF ((nameN i).map lowB) keyD = false := by rcases h with rfl | rfl <;> decide +kernel
  have e3 : alikeF ((nameN i).map lowB) verD = false := by rcases h with rfl | rfl <;> decide +kernel
  have f1 : manyF (twiceV (bb.enc k) v13D i) hostD = [[97]] := by unfold twiceV; rw [many_app, askV_host, one_more, e1]; rfl
  have f2 : manyF (twiceV (bb.enc k) v13D i) keyD = [bb.enc k] := by unfold twiceV; rw [many_app, askV_key, one_more, e2]; rfl
  have f3 : manyF (twiceV (bb.enc k) v13D i) verD = [v13D] := by unfold twiceV; rw [many_app, askV_ver, one_more, e3]; rfl
  have f4 : hasAny (manyF (twiceV (bb.enc k) v13D i) upD) wsD = true := by unfold twiceV; rw [many_app, askV_up]; exact has_more _ _ _ (by decide +kernel)
  have f5 : hasAny (manyF (twiceV (bb.enc k) v13D i) conD) upD = true := by unfold twiceV; rw [many_app, askV_con]; exact has_more _ _ _ (by decide +kernel)
  have h : askF getD 11 (twiceV (bb.enc k) v13D i) = true := by
    unfold askF
    rw [f1, f2, f3, f4, f5, show ([bb.enc k] : List DTx).headD [] = bb.enc k from rfl, ok_enc k hk]; rfl
  unfold checkF
  rw [if_pos h, f2, f3, show ([v13D] : List DTx).headD [] = v13D from rfl, show ([bb.enc k] : List DTx).headD [] = bb.enc k from rfl, if_pos rfl]
theorem other_check (m : DTx) (v : Int) (k : DTx) (hk : k.length = 16) : checkF m v (askV (bb.enc k) v13D) = if m = getD ∧ v = 11 then (accF (bb.enc k), 101) else ([], 400) := by
  by_cases h : m = getD ∧ v = 11
  · rw [if_pos h, h.1, h.2, check_askV k v13D hk, if_pos rfl]
  · rw [if_neg h]
    refine check_no ?_
    unfold askF
    by_cases hm : m = getD
    · have hv : (v == 11) = false := by simpa using fun e => h ⟨hm, e⟩
      rw [hv]; simp
    · have hm' : (m == getD) = false := by simpa using hm
      rw [hm']; simp
theorem less_small (e v : DTx) (i : Nat) (he : Small17 (askV e v)) : Small17 (lessV e v i) := by
  refine ⟨?_, fun f hf => ?_⟩
  · have := he.few
    unfold lessV
    rw [List.length_append, List.length_take, List.length_drop]; omega
  · unfold lessV at hf
    rcases List.mem_append.1 hf with hf | hf
    · exact he.each f (List.mem_of_mem_take hf)
    · exact he.each f (List.mem_of_mem_drop hf)
theorem twice_small (e v : DTx) (i : Nat) (h : i < 5) (he : Small17 (askV e v)) : Small17 (twiceV e v i) := by
  have hm := he.each _ (List.mem_of_getElem? (askV_at e v i h))
  refine ⟨by unfold twiceV; rw [List.length_append]; show (5 : Nat) + 1 ≤ 100; decide, fun f hf => ?_⟩
  unfold twiceV at hf
  rcases List.mem_append.1 hf with hf | hf
  · exact he.each f hf
  · rw [List.mem_singleton.1 hf]
    exact ⟨by rw [List.length_map]; exact hm.1, hm.2⟩
end Go.Proofs.YtnaekjmlikhglaaDoor
