/- The handler of ChainGoes: it keeps what it is asked (stage 13). -/
import Derived.Test.YtbnlkjoblngakaaDoorKz
namespace Go.Proofs.YtbnlkjoblngakaaDoor
open Go.RowKit Go.Shelf
attribute [local go_sem] store_one S_match S_store

theorem eleRq : EleK Tryd.prog 25 7 := eleK_of (z := .agg #[.string ⟨#[]⟩, .string ⟨#[]⟩, .string ⟨#[]⟩, .int .i64 0, .slice none 0 0, .string ⟨#[]⟩, .bool false]) (n := 104) (by kernel_rfl) (by decide) rfl
set_option maxRecDepth 100000 in
set_option maxHeartbeats 1000000 in
theorem keep_any (r : Rq) (av : Option Addr) (kv qv : Nat) (bg bx : Nat) (c : Int) (ax : Option Addr) (nx cx : Nat) (body : Tx) (w : World) (hg : Row w bg #[.slice none 0 0] 38) (hx : Row w bx (rpC c (.slice ax nx cx) body) 27) (hne : bg ≠ bx) :
    Calls Tryd.prog 15 (#[rqV r (.slice av kv qv)] ++ #[.pointer (some ⟨bg, 0, none⟩), .pointer (some ⟨bx, 0, none⟩)]) w fun e w' => e = .returned (rpV c (.slice ax nx cx) body) ∧ Rest (fun j => j = bg) w w' ∧
      ∃ gg cap, Row w' bg #[.slice (some ⟨gg, 0, none⟩) 1 cap] 38 ∧ w.heap.size ≤ gg ∧ gg < w'.heap.size ∧ ∀ j v, (rqC r (.slice av kv qv))[j]? = some v → w'.cell? ⟨gg, j, none⟩ = some v := by
  unfold rqV rqC
  obtain ⟨m, p, q, v, fs, bd, cl⟩ := r
  dsimp only
  obtain ⟨b2, hb2⟩ : ∃ b, b = w.heap.size := ⟨_, rfl⟩
  obtain ⟨W2, hW2⟩ : ∃ W, W = (w.alloc (.cells #[S m, S p, S q, .int .i64 v, .slice av kv qv, S bd, .bool cl] 25)).alloc (.cells #[.int .i64 0, .slice none 0 0, .string ⟨#[]⟩] 27) := ⟨_, rfl⟩
  have hB2 : Below w.heap.size w W2 := by rw [hW2]; exact ((Below.refl _ w).alloc (Nat.le_refl _) _).alloc (by rw [alloc_size]; omega) _
  have hr1 : Row W2 b2 #[S m, S p, S q, .int .i64 v, .slice av kv qv, S bd, .bool cl] 25 := by rw [hW2, hb2]; exact (row_new _ _ _).alloc _
  have hr2 : Row W2 (b2 + 1) #[.int .i64 0, .slice none 0 0, .string ⟨#[]⟩] 27 := by
    have h := row_new (w.alloc (.cells #[S m, S p, S q, .int .i64 v, .slice av kv qv, S bd, .bool cl] 25)) #[.int .i64 0, .slice none 0 0, .string ⟨#[]⟩] 27
    rw [alloc_size, ← hb2] at h
    rw [hW2]; exact h
  have hs2 : W2.heap.size = b2 + 1 + 1 := by rw [hW2, alloc_size, alloc_size, ← hb2]
  have hgl := hg.lt
  have hxl := hx.lt
  have HALL := Lib.hid (And.intro (And.intro (hg.below hB2 hgl) (hx.below hB2 hxl)) (And.intro (And.intro hr1 hr2) (And.intro hB2 (And.intro hs2 hb2))))
  have a0 : W2.cell? ⟨b2, 0, none⟩ = some (S m) := cell_of_row _ b2 0 _ _ (0, 0) hr1
  have a1 : W2.cell? ⟨b2, 1, none⟩ = some (S p) := cell_of_row _ b2 1 _ _ (0, 0) hr1
  have a2 : W2.cell? ⟨b2, 2, none⟩ = some (S q) := cell_of_row _ b2 2 _ _ (0, 0) hr1
  have a3 : W2.cell? ⟨b2, 3, none⟩ = some (.int .i64 v) := cell_of_row _ b2 3 _ _ (0, 0) hr1
  have a4 : W2.cell? ⟨b2, 4, none⟩ = some (.slice av kv qv) := cell_of_row _ b2 4 _ _ (0, 0) hr1
  have a5 : W2.cell? ⟨b2, 5, none⟩ = some (S bd) := cell_of_row _ b2 5 _ _ (0, 0) hr1
  have a6 : W2.cell? ⟨b2, 6, none⟩ = some (.bool cl) := cell_of_row _ b2 6 _ _ (0, 0) hr1
  have g0 : W2.cell? ⟨bg, 0, none⟩ = some (.slice none 0 0) := cell_of_row _ bg 0 _ _ (0, 0) (hg.below hB2 hgl)
  obtain ⟨i, z, hi, hz, hsz, hby, hzs⟩ := eleRq
  have hrn := row_new W2 #[S m, S p, S q, .int .i64 v, .slice av kv qv, S bd, .bool cl] 25
  obtain ⟨V7, W7, hr7, o7, w7, _, _⟩ := run_append_own_at (P := Tryd.prog) (w := W2.alloc (.cells #[S m, S p, S q, .int .i64 v, .slice av kv qv, S bd, .bool cl] 25)) W2.heap.size 38 38 25 i _ 7 i.bytes Tryd.underlying38 hi hz hsz rfl hzs (by decide)
    (.slice none 0 0) 0 [] ⟨rfl, .inl ⟨rfl, rfl⟩⟩ ⟨W2.heap.size, 0, none⟩ 1 1 [S m, S p, S q, .int .i64 v, .slice av kv qv, S bd, .bool cl] rfl (fun j u hu => by
      rw [Addr.add_lit]
      rw [cell_of_row _ _ _ _ _ _ hrn]
      simpa using hu) (fun u hu => by
      simp only [List.mem_cons, List.not_mem_nil, or_false] at hu
      rcases hu with rfl | rfl | rfl | rfl | rfl | rfl | rfl <;> rfl)
    (by simp [maxLen]) (by omega) (by rw [alloc_size]; omega)
  rcases o7.2 with ⟨_, h0⟩ | ⟨gg, cap, cur, rfl, hgb, hgr, _⟩
  · omega
  have hB7 : Below W2.heap.size W2 W7 := below_grown ((Below.refl _ _).alloc (Nat.le_refl _) _) w7 (fun k hk => by cases hk) (by rw [alloc_size]; omega)
  have hcg := own_cellB o7
  obtain ⟨W8, hW8⟩ : ∃ W, W = W7.setCell ⟨bg, 0, none⟩ (.slice (some ⟨gg, 0, none⟩) (0 + 1) cap) := ⟨_, rfl⟩
  have hg7 := HALL.out.1.1.below hB7 HALL.out.1.1.lt
  have hx7 := HALL.out.1.2.below hB7 HALL.out.1.2.lt
  have hr7b := HALL.out.2.1.2.below hB7 HALL.out.2.1.2.lt
  have hg8 : Row W8 bg #[.slice (some ⟨gg, 0, none⟩) (0 + 1) cap] 38 := by rw [hW8]; exact hg7.set 0 _
  have hx8 : Row W8 bx (rpC c (.slice ax nx cx) body) 27 := by rw [hW8]; exact hx7.other (a := ⟨bg, 0, none⟩) (fun e => hne e.symm)
  have hr8 : Row W8 (b2 + 1) #[.int .i64 0, .slice none 0 0, .string ⟨#[]⟩] 27 := by rw [hW8]; exact hr7b.other (a := ⟨bg, 0, none⟩) (by show b2 + 1 ≠ bg; omega)
  have e0 : W7.cell? ⟨bg, 0, none⟩ = some (.slice none 0 0) := cell_of_row _ bg 0 _ _ (0, 0) hg7
  have z0 := hg7.frozen 0
  have x0 : W8.cell? ⟨bx, 0, none⟩ = some (.int .i64 c) := cell_of_row _ bx 0 _ _ (0, 0) hx8
  have x1 : W8.cell? ⟨bx, 1, none⟩ = some (.slice ax nx cx) := cell_of_row _ bx 1 _ _ (0, 0) hx8
  have x2 : W8.cell? ⟨bx, 2, none⟩ = some (S body) := cell_of_row _ bx 2 _ _ (0, 0) hx8
  have y0 : W8.cell? ⟨b2 + 1, 0, none⟩ = some (.int .i64 0) := cell_of_row _ (b2 + 1) 0 _ _ (0, 0) hr8
  have y1 : W8.cell? ⟨b2 + 1, 1, none⟩ = some (.slice none 0 0) := cell_of_row _ (b2 + 1) 1 _ _ (0, 0) hr8
  have y2 : W8.cell? ⟨b2 + 1, 2, none⟩ = some (.string ⟨#[]⟩) := cell_of_row _ (b2 + 1) 2 _ _ (0, 0) hr8
  have u0 := hr8.frozen 0
  have u1 := hr8.frozen 1
  have u2 := hr8.frozen 2
  have hggl : gg < W7.heap.size := (Array.getElem?_eq_some_iff.1 hgr).1
  have HROW := Lib.hid (put3k_row hr8 (.int .i64 c) (.slice ax nx cx) (S body))
  have HEND : Hid (Rest (fun j => j = bg) w (put3k W8 (b2 + 1) (.int .i64 c) (.slice ax nx cx) (S body)) ∧ Row (put3k W8 (b2 + 1) (.int .i64 c) (.slice ax nx cx) (S body)) bg #[.slice (some ⟨gg, 0, none⟩) (0 + 1) cap] 38 ∧ w.heap.size ≤ gg ∧ gg < (put3k W8 (b2 + 1) (.int .i64 c) (.slice ax nx cx) (S body)).heap.size ∧
      ∀ j v', (#[S m, S p, S q, .int .i64 v, .slice av kv qv, S bd, .bool cl] : Array Value)[j]? = some v' → (put3k W8 (b2 + 1) (.int .i64 c) (.slice ax nx cx) (S body)).cell? ⟨gg, j, none⟩ = some v') := Lib.hid (by
    have hrest : Rest (fun j => j = bg ∨ j = b2 + 1) W7 (put3k W8 (b2 + 1) (.int .i64 c) (.slice ax nx cx) (S body)) := by
      have h1 : Rest (fun j => j = bg) W7 W8 := by rw [hW8]; exact set_rest W7 bg 0 _
      have h4 : Rest (fun k => k = b2 + 1) W8 (put3k W8 (b2 + 1) (.int .i64 c) (.slice ax nx cx) (S body)) :=
        (((set_rest W8 (b2 + 1) 0 (.int .i64 c)).trans (set_rest _ (b2 + 1) 1 (.slice ax nx cx))).trans (set_rest _ (b2 + 1) 2 (S body))).mono fun k _ h => h.elim (fun h => h.elim id id) id
      exact (h1.trans h4).mono fun k _ h => h
    have hs2' := hs2
    refine ⟨?_, put3k_other hg8 (by omega) _ _ _, by omega, Nat.lt_of_lt_of_le hggl hrest.size, fun j v' hv => ?_⟩
    · exact (((Rest.of_below (N := fun j => j = bg) hB2).trans (Rest.of_below (N := fun j => j = bg) (hB7.mono (Nat.le_refl _)))).trans hrest).mono fun k hk h => by
        rcases h with (h | h) | h | h
        · exact h
        · exact h
        · exact h
        · omega
    · refine hrest.cell (by omega) (hcg j v' ?_)
      rw [List.nil_append]
      simpa using hv)
  have HR7 := Lib.hid hr7
  have hb2' := hb2
  rw [hs2] at HR7
  rw [hW8] at x0 x1 x2 y0 y1 y2 u0 u1 u2 HROW HEND
  rw [hb2] at HR7 a0 a1 a2 a3 a4 a5 a6 y0 y1 y2 u0 u1 u2 HROW HEND
  rw [hW2] at HR7 a0 a1 a2 a3 a4 a5 a6 g0
  clear hW8 hW2 hb2 hb2' hs2 hB2 hr1 hr2 hgl hxl hrn o7 w7 hgb hgr hB7 hcg hg7 hx7 hr7b hg8 hx8 hr8 hggl hr7 hg hx hi hz hsz hby hzs HALL
  go_enter Tryd.func15, Tryd.ntmps15
  go_wp2_with first
    | (at_builtin; refine wpList_append_at rfl (.tmp 5) (.tmp 7) 38 rfl _ _ rfl rfl (.slice (some ⟨gg, 0, none⟩) (0 + 1) cap) W7 HR7.out ?_)
  refine bodyPost_ret (results_row_one rfl _ _ (w.heap.size + 1) 27 #[.int .i64 c, .slice ax nx cx, S body] (0, 0) _ rfl HROW.out Tryd.underlying27 rfl infoRp) rfl ?_
  exact ⟨rfl, HEND.out.1, gg, ⟨cap, HEND.out.2.1⟩, HEND.out.2.2.1, HEND.out.2.2.2.1, fun j v' h => HEND.out.2.2.2.2 j v' (by simpa using h)⟩
end Go.Proofs.YtbnlkjoblngakaaDoor
