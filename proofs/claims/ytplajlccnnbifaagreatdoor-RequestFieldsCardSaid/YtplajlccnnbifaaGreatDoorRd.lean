/- The document's Head walked. (mkrd.py writes it.) -/
import Derived.Test.YtplajlccnnbifaaGreatDoorJb
import Derived.Test.YtplajlccnnbifaaGreatDoorRb
import Derived.Test.YtplajlccnnbifaaGreatDoorLg
namespace Go.Proofs.YtplajlccnnbifaaGreatDoor
open Go.RowKit
attribute [local go_sem] store_one S_match S_store eguard_BN nguard_BN

/-- What Head tells. -/
def HeadPost (w : World) (h : Hd) (e : Ending) (w' : World) : Prop := Below w.heap.size w w' ∧ match h with
  | .bad c => e = .returned (.tuple #[.agg zeroR, .int .i64 0, .int .i64 (c : Int)])
  | .ok r len => ∃ V, e = .returned (.tuple #[.agg (rqCells r.m r.p r.q r.v V [] r.cl), optV len, .int .i64 0]) ∧ w'.ownsRow w.heap.size 47 2 V r.fs.length (fcells r.fs)

theorem lns_ne : ∀ (n : Nat) (s cur : List UInt8), s.length ≤ n → lnsF cur s ≠ []
  | _, [], cur, _ => by rw [lns_end]; simp
  | _, [c], cur, _ => by rw [lns_last]; simp
  | 0, c :: d :: r, cur, h => by simp at h
  | n + 1, c :: d :: r, cur, h => by
    by_cases hc : c = 13 ∧ d = 10
    · obtain ⟨rfl, rfl⟩ := hc
      rw [lns_cut]; simp
    · rw [lns_on hc]
      exact lns_ne n (d :: r) (cur ++ [c]) (by simp only [List.length_cons] at h ⊢; omega)
theorem optV_neg : optV none = .int .i64 (-1) := rfl
theorem linesH_cons {h : Hs} {l : List UInt8} {r : List (List UInt8)} : linesH h (l :: r) = match lineH h l with
    | none => none
    | some h' => linesH h' r := rfl
theorem num_le : ∀ (s : List UInt8) (n k : Nat), n ≤ 5000 → numGo n s = some k → k ≤ 5000
  | [], n, k, hn, h => by rw [numGo] at h; cases h; exact hn
  | c :: r, n, k, hn, h => by
    rw [numGo] at h
    split at h
    · exact num_le r _ k (Nat.min_le_right _ _) h
    · cases h
theorem numF_le {s : List UInt8} {k : Nat} (h : numF s = some k) : k ≤ 5000 := by
  unfold numF at h
  split at h
  · cases h
  · exact num_le s 0 k (by omega) h
set_option maxRecDepth 100000 in
set_option maxHeartbeats 8000000 in
theorem dhead_any (s : List UInt8) (hs : s.length ≤ 20000) (w : World) : Calls Tryz.prog 32 #[S s] w (HeadPost w (headR s)) := by
  have HLN := Lib.hid (fun w => dlines_any s (by omega) w)
  obtain ⟨b2, hb2⟩ : ∃ b, b = w.heap.size := ⟨_, rfl⟩
  obtain ⟨b5, hb5⟩ : ∃ b, b = w.heap.size + 1 := ⟨_, rfl⟩
  obtain ⟨W2, hW2⟩ : ∃ W, W = (w.alloc (.cells zeroR 27)).alloc (.cells zeroR 27) := ⟨_, rfl⟩
  have hr2 : Row W2 b2 zeroR 27 := by rw [hW2, hb2]; exact (row_new w zeroR 27).alloc _
  have hr5 : Row W2 b5 zeroR 27 := by
    have := row_new (w.alloc (.cells zeroR 27)) zeroR 27
    rw [alloc_size] at this
    rw [hW2, hb5]; exact this
  have hB2 : Below w.heap.size w W2 := by rw [hW2]; exact ((Below.refl _ w).alloc (Nat.le_refl _) _).alloc (by simp) _
  have H2 := Lib.hid (And.intro hr2 (And.intro hr5 (And.intro hB2 (And.intro hb2 hb5))))
  have hW2' : W2 = (w.alloc (.cells #[.string ⟨#[]⟩, .string ⟨#[]⟩, .string ⟨#[]⟩, .int .i64 0, .slice none 0 0, .string ⟨#[]⟩, .bool false] 27)).alloc (.cells #[.string ⟨#[]⟩, .string ⟨#[]⟩, .string ⟨#[]⟩, .int .i64 0, .slice none 0 0, .string ⟨#[]⟩, .bool false] 27) := hW2
  clear hr2 hr5 hB2 hW2
  obtain ⟨ls, hls⟩ : ∃ ls, ls = lnsF [] s := ⟨_, rfl⟩
  rw [← hls] at HLN
  have hhd : headR s = headL ls := by rw [hls]; rfl
  have HLL := Lib.hid (show (∀ l ∈ ls, l.length ≤ s.length) ∧ ls.length ≤ s.length + 1 ∧ ls ≠ [] from ⟨fun l hl => by rw [hls] at hl; have := lns_le _ s [] l (Nat.le_refl _) hl; simpa using this, by rw [hls]; exact lns_count _ s [] (Nat.le_refl _), by rw [hls]; exact lns_ne _ s [] (Nat.le_refl _)⟩)
  obtain ⟨O, hO⟩ : ∃ O, O = headR s := ⟨_, rfl⟩
  rw [← hO] at hhd ⊢
  have HO := Lib.hid hhd
  clear hls hhd hO
  -- what is wrong, told
  have hbad : Hid (∀ (W : World) (c : Nat) (tmps : Array Value), Row W b2 zeroR 27 → Below w.heap.size w W → tmps.getD 2 undef = .pointer (some ⟨b2, 0, none⟩) → tmps.getD 3 undef = .int .i64 0 → tmps.getD 4 undef = .int .i64 (c : Int) → O = .bad c →
      bodyPost Tryz.prog Tryz.f32 (HeadPost w O) .ret { tmps := tmps, defers := [] } (put7 W b2 (.string ⟨#[]⟩) (.string ⟨#[]⟩) (.string ⟨#[]⟩) (.int .i64 0) (.slice none 0 0) (.string ⟨#[]⟩) (.bool false))) := Lib.hid fun W c tmps hr hB h2 h3 h4 ho => by
    refine bodyPost_ret (request_end rfl _ _ b2 _ h2 (put7_row hr _ _ _ _ _ _ _) rfl) rfl ?_
    rw [ho]
    exact ⟨put7_below hB (Nat.le_of_eq H2.out.2.2.2.1.symm) _ _ _ _ _ _ _, by rw [h3, h4]; rfl⟩
  go_enter Tryz.func32, Tryz.ntmps32
  go_wp2_with fail
  rw [← hW2', ← hb5, ← hb2]
  clear hW2' hb2 hb5
  refine (HLN.out _).mono ?_
  rintro e W3 ⟨vl, rfl, hown, hB3⟩
  have hlen := own_len hown 78 9 3 Tryz.underlying78
  rw [List.length_map] at hlen
  obtain ⟨ad, hidx, hcell⟩ := own_cells hown Tryz.underlying78 (fun w => Tryz.sizeOf9 w)
  rw [List.length_map] at hidx hcell
  have hr2 := H2.out.1.below hB3 H2.out.1.lt
  have hr5 := H2.out.2.1.below hB3 H2.out.2.1.lt
  have H3 : Hid (Below w.heap.size w W3 ∧ Row W3 b2 zeroR 27 ∧ Row W3 b5 zeroR 27) := Lib.hid ⟨H2.out.2.2.1.trans (hB3.mono H2.out.2.2.1.size), hr2, hr5⟩
  obtain ⟨N, hN⟩ : ∃ N, N = ls.length := ⟨_, rfl⟩
  rw [← hN] at hlen hidx hcell
  have HN := Lib.hid hN
  have HI := Lib.hid hidx
  -- a line, in whatever world behind
  have HL : Hid (∀ j l, ls[j]? = some l → ∀ W, Below W3.heap.size W3 W → W.cell? (ad j) = some (S l)) := Lib.hid fun j l hl W hW => by
    have hj : j < N := by rw [hN]; exact (List.getElem?_eq_some_iff.1 hl).1
    rw [hW.cell (hcell j hj).1, (hcell j hj).2.2.1, List.getElem?_map, hl]; rfl
  clear hown hB3 hr2 hr5 HLN hidx hcell hN
  by_cases h33 : 33 < N
  · have g1 : decide ((33 : Int) < (N : Int)) = true := decide_eq_true (by omega)
    have HOb : Hid (O = .bad 431) := Lib.hid (by
      rw [HO.out]
      cases hc : ls with
      | nil => exact absurd hc HLL.out.2.2
      | cons a r => unfold headL; dsimp only; rw [if_pos (by rw [← hc, ← HN.out]; exact h33)])
    have hr2 := H3.out.2.1
    have hr5 := H3.out.2.2
    have c0 : W3.cell? ⟨b5, 0, none⟩ = some (.string ⟨#[]⟩) := cell_of_row W3 _ 0 _ 27 (0, 0) hr5
    have c1 : W3.cell? ⟨b5, 1, none⟩ = some (.string ⟨#[]⟩) := cell_of_row W3 _ 1 _ 27 (0, 0) hr5
    have c2 : W3.cell? ⟨b5, 2, none⟩ = some (.string ⟨#[]⟩) := cell_of_row W3 _ 2 _ 27 (0, 0) hr5
    have c3 : W3.cell? ⟨b5, 3, none⟩ = some (.int .i64 0) := cell_of_row W3 _ 3 _ 27 (0, 0) hr5
    have c4 : W3.cell? ⟨b5, 4, none⟩ = some (.slice none 0 0) := cell_of_row W3 _ 4 _ 27 (0, 0) hr5
    have c5 : W3.cell? ⟨b5, 5, none⟩ = some (.string ⟨#[]⟩) := cell_of_row W3 _ 5 _ 27 (0, 0) hr5
    have c6 : W3.cell? ⟨b5, 6, none⟩ = some (.bool false) := cell_of_row W3 _ 6 _ 27 (0, 0) hr5
    have d0 : W3.cell? ⟨b2, 0, none⟩ = some (.string ⟨#[]⟩) := cell_of_row W3 _ 0 _ 27 (0, 0) hr2
    have df0 : W3.frozen? ⟨b2, 0, none⟩ = false := Row.frozen hr2 0
    have d1 : W3.cell? ⟨b2, 1, none⟩ = some (.string ⟨#[]⟩) := cell_of_row W3 _ 1 _ 27 (0, 0) hr2
    have df1 : W3.frozen? ⟨b2, 1, none⟩ = false := Row.frozen hr2 1
    have d2 : W3.cell? ⟨b2, 2, none⟩ = some (.string ⟨#[]⟩) := cell_of_row W3 _ 2 _ 27 (0, 0) hr2
    have df2 : W3.frozen? ⟨b2, 2, none⟩ = false := Row.frozen hr2 2
    have d3 : W3.cell? ⟨b2, 3, none⟩ = some (.int .i64 0) := cell_of_row W3 _ 3 _ 27 (0, 0) hr2
    have df3 : W3.frozen? ⟨b2, 3, none⟩ = false := Row.frozen hr2 3
    have d4 : W3.cell? ⟨b2, 4, none⟩ = some (.slice none 0 0) := cell_of_row W3 _ 4 _ 27 (0, 0) hr2
    have df4 : W3.frozen? ⟨b2, 4, none⟩ = false := Row.frozen hr2 4
    have d5 : W3.cell? ⟨b2, 5, none⟩ = some (.string ⟨#[]⟩) := cell_of_row W3 _ 5 _ 27 (0, 0) hr2
    have df5 : W3.frozen? ⟨b2, 5, none⟩ = false := Row.frozen hr2 5
    have d6 : W3.cell? ⟨b2, 6, none⟩ = some (.bool false) := cell_of_row W3 _ 6 _ 27 (0, 0) hr2
    have df6 : W3.frozen? ⟨b2, 6, none⟩ = false := Row.frozen hr2 6
    clear hr2 hr5
    go_wp2
    exact hbad.out W3 431 _ H3.out.2.1 H3.out.1 rfl rfl rfl HOb.out
  have g1 : decide ((33 : Int) < (N : Int)) = false := decide_eq_false (by omega)
  obtain ⟨l0, lr, hlc⟩ : ∃ l0 lr, ls = l0 :: lr := by
    cases hc : ls with
    | nil => exact absurd hc HLL.out.2.2
    | cons a r => exact ⟨a, r, rfl⟩
  have HLC := Lib.hid hlc
  have hN1 : 1 ≤ N := by rw [HN.out, hlc]; simp
  have hi0 : ∀ w', (Instr.indexAt 78 vl (.int .i64 0)).run Tryz.prog w' = .ok (.pointer (some (ad 0))) w' := HI.out 0 (by omega)
  have hc0 := HL.out 0 l0 (by rw [hlc]; rfl) W3 (Below.refl _ _)
  have hl0 : l0.length ≤ 100000 := by have := HLL.out.1 l0 (by rw [hlc]; exact List.mem_cons_self); omega
  clear hlc
  have hdp := fun w => dparse_any l0 hl0 w
  obtain ⟨⟨m, tg, v, ok1⟩, hlf⟩ : ∃ x, x = lineF l0 := ⟨_, rfl⟩
  rw [← hlf] at hdp
  rw [show lineV (m, tg, v, ok1) = .tuple #[S m, S tg, .int .i64 (v : Int), .bool ok1] from rfl] at hdp
  have htg : tg.length ≤ 100000 := by
    cases ok1 with
    | true =>
      obtain ⟨_, _, _, h4⟩ := lineF_true hlf.symm
      rcases h4 with ⟨_, h4⟩ | ⟨_, h4⟩ <;> (have := congrArg List.length h4; simp only [List.length_append, List.length_cons] at this; omega)
    | false => rw [(lineF_false hlf.symm).2.1]; simp
  have hv : ok1 = true → v = 10 ∨ v = 11 := fun h => by
    subst h
    obtain ⟨_, _, _, h4⟩ := lineF_true hlf.symm
    rcases h4 with ⟨h4, _⟩ | ⟨h4, _⟩
    · exact .inl h4
    · exact .inr h4
  have hdt := fun w => dtarget_any tg htg w
  obtain ⟨⟨pa, qa, ok2⟩, htf⟩ : ∃ x, x = targetF tg := ⟨_, rfl⟩
  rw [← htf] at hdt
  rw [show targetV (pa, qa, ok2) = .tuple #[S pa, S qa, .bool ok2] from rfl] at hdt
  have HDP := Lib.hid hdp
  have HDT := Lib.hid hdt
  have HOF : Hid (O = if ok1 = false ∨ ok2 = false then .bad 400 else match linesH ⟨[], 0, 0, none, [], v == 10⟩ lr with
      | none => .bad 400
      | some h => if (v = 11 ∧ h.hosts ≠ 1) ∨ 1 < h.coded ∨ (h.coded = 1 ∧ (v = 10 ∨ h.len ≠ none)) then .bad 400
        else if h.coded = 1 then .ok ⟨m, pa, qa, v, h.fs, [], h.cl⟩ none
        else if 4096 < h.len.getD 0 then .bad 413
        else .ok ⟨m, pa, qa, v, h.fs, [], h.cl⟩ (some (h.len.getD 0))) := Lib.hid (by
    rw [HO.out, HLC.out]
    unfold headL
    dsimp only
    rw [if_neg (by rw [← HLC.out, ← HN.out]; exact h33), ← hlf]
    dsimp only
    rw [← htf]
    rfl)
  clear hdp hdt hlf htf hl0 htg
  by_cases ho1 : ok1 = false
  · have HOb : Hid (O = .bad 400) := Lib.hid (by rw [HOF.out, if_pos (.inl ho1)])
    subst ho1
    go_wp2_with fail
    refine (HDP.out W3).mono ?_
    rintro e W4 ⟨rfl, hD4⟩
    have HD4 := Lib.hid hD4
    clear hD4
    go_wp2_with fail
    refine (HDT.out W4).mono ?_
    rintro e W5 ⟨rfl, hD5⟩
    have HD5 := Lib.hid (HD4.out.trans hD5)
    clear hD5
    have HBW := Lib.hid HD5.out.below
    have hr2 := H3.out.2.1.below HBW.out H3.out.2.1.lt
    have hr5 := H3.out.2.2.below HBW.out H3.out.2.2.lt
    have c0 : W5.cell? ⟨b5, 0, none⟩ = some (.string ⟨#[]⟩) := cell_of_row W5 _ 0 _ 27 (0, 0) hr5
    have c1 : W5.cell? ⟨b5, 1, none⟩ = some (.string ⟨#[]⟩) := cell_of_row W5 _ 1 _ 27 (0, 0) hr5
    have c2 : W5.cell? ⟨b5, 2, none⟩ = some (.string ⟨#[]⟩) := cell_of_row W5 _ 2 _ 27 (0, 0) hr5
    have c3 : W5.cell? ⟨b5, 3, none⟩ = some (.int .i64 0) := cell_of_row W5 _ 3 _ 27 (0, 0) hr5
    have c4 : W5.cell? ⟨b5, 4, none⟩ = some (.slice none 0 0) := cell_of_row W5 _ 4 _ 27 (0, 0) hr5
    have c5 : W5.cell? ⟨b5, 5, none⟩ = some (.string ⟨#[]⟩) := cell_of_row W5 _ 5 _ 27 (0, 0) hr5
    have c6 : W5.cell? ⟨b5, 6, none⟩ = some (.bool false) := cell_of_row W5 _ 6 _ 27 (0, 0) hr5
    have d0 : W5.cell? ⟨b2, 0, none⟩ = some (.string ⟨#[]⟩) := cell_of_row W5 _ 0 _ 27 (0, 0) hr2
    have df0 : W5.frozen? ⟨b2, 0, none⟩ = false := Row.frozen hr2 0
    have d1 : W5.cell? ⟨b2, 1, none⟩ = some (.string ⟨#[]⟩) := cell_of_row W5 _ 1 _ 27 (0, 0) hr2
    have df1 : W5.frozen? ⟨b2, 1, none⟩ = false := Row.frozen hr2 1
    have d2 : W5.cell? ⟨b2, 2, none⟩ = some (.string ⟨#[]⟩) := cell_of_row W5 _ 2 _ 27 (0, 0) hr2
    have df2 : W5.frozen? ⟨b2, 2, none⟩ = false := Row.frozen hr2 2
    have d3 : W5.cell? ⟨b2, 3, none⟩ = some (.int .i64 0) := cell_of_row W5 _ 3 _ 27 (0, 0) hr2
    have df3 : W5.frozen? ⟨b2, 3, none⟩ = false := Row.frozen hr2 3
    have d4 : W5.cell? ⟨b2, 4, none⟩ = some (.slice none 0 0) := cell_of_row W5 _ 4 _ 27 (0, 0) hr2
    have df4 : W5.frozen? ⟨b2, 4, none⟩ = false := Row.frozen hr2 4
    have d5 : W5.cell? ⟨b2, 5, none⟩ = some (.string ⟨#[]⟩) := cell_of_row W5 _ 5 _ 27 (0, 0) hr2
    have df5 : W5.frozen? ⟨b2, 5, none⟩ = false := Row.frozen hr2 5
    have d6 : W5.cell? ⟨b2, 6, none⟩ = some (.bool false) := cell_of_row W5 _ 6 _ 27 (0, 0) hr2
    have df6 : W5.frozen? ⟨b2, 6, none⟩ = false := Row.frozen hr2 6
    clear hr2 hr5
    go_wp2
    exact hbad.out W5 400 _ (H3.out.2.1.below HBW.out H3.out.2.1.lt) (H3.out.1.trans (HBW.out.mono H3.out.1.size)) rfl rfl rfl HOb.out
  have ho1' : ok1 = true := by simpa using ho1
  subst ho1'
  clear ho1
  by_cases ho2 : ok2 = false
  · have HOb : Hid (O = .bad 400) := Lib.hid (by rw [HOF.out, if_pos (.inr ho2)])
    subst ho2
    go_wp2_with fail
    refine (HDP.out W3).mono ?_
    rintro e W4 ⟨rfl, hD4⟩
    have HD4 := Lib.hid hD4
    clear hD4
    go_wp2_with fail
    refine (HDT.out W4).mono ?_
    rintro e W5 ⟨rfl, hD5⟩
    have HD5 := Lib.hid (HD4.out.trans hD5)
    clear hD5
    have HBW := Lib.hid HD5.out.below
    have hr2 := H3.out.2.1.below HBW.out H3.out.2.1.lt
    have hr5 := H3.out.2.2.below HBW.out H3.out.2.2.lt
    have c0 : W5.cell? ⟨b5, 0, none⟩ = some (.string ⟨#[]⟩) := cell_of_row W5 _ 0 _ 27 (0, 0) hr5
    have c1 : W5.cell? ⟨b5, 1, none⟩ = some (.string ⟨#[]⟩) := cell_of_row W5 _ 1 _ 27 (0, 0) hr5
    have c2 : W5.cell? ⟨b5, 2, none⟩ = some (.string ⟨#[]⟩) := cell_of_row W5 _ 2 _ 27 (0, 0) hr5
    have c3 : W5.cell? ⟨b5, 3, none⟩ = some (.int .i64 0) := cell_of_row W5 _ 3 _ 27 (0, 0) hr5
    have c4 : W5.cell? ⟨b5, 4, none⟩ = some (.slice none 0 0) := cell_of_row W5 _ 4 _ 27 (0, 0) hr5
    have c5 : W5.cell? ⟨b5, 5, none⟩ = some (.string ⟨#[]⟩) := cell_of_row W5 _ 5 _ 27 (0, 0) hr5
    have c6 : W5.cell? ⟨b5, 6, none⟩ = some (.bool false) := cell_of_row W5 _ 6 _ 27 (0, 0) hr5
    have d0 : W5.cell? ⟨b2, 0, none⟩ = some (.string ⟨#[]⟩) := cell_of_row W5 _ 0 _ 27 (0, 0) hr2
    have df0 : W5.frozen? ⟨b2, 0, none⟩ = false := Row.frozen hr2 0
    have d1 : W5.cell? ⟨b2, 1, none⟩ = some (.string ⟨#[]⟩) := cell_of_row W5 _ 1 _ 27 (0, 0) hr2
    have df1 : W5.frozen? ⟨b2, 1, none⟩ = false := Row.frozen hr2 1
    have d2 : W5.cell? ⟨b2, 2, none⟩ = some (.string ⟨#[]⟩) := cell_of_row W5 _ 2 _ 27 (0, 0) hr2
    have df2 : W5.frozen? ⟨b2, 2, none⟩ = false := Row.frozen hr2 2
    have d3 : W5.cell? ⟨b2, 3, none⟩ = some (.int .i64 0) := cell_of_row W5 _ 3 _ 27 (0, 0) hr2
    have df3 : W5.frozen? ⟨b2, 3, none⟩ = false := Row.frozen hr2 3
    have d4 : W5.cell? ⟨b2, 4, none⟩ = some (.slice none 0 0) := cell_of_row W5 _ 4 _ 27 (0, 0) hr2
    have df4 : W5.frozen? ⟨b2, 4, none⟩ = false := Row.frozen hr2 4
    have d5 : W5.cell? ⟨b2, 5, none⟩ = some (.string ⟨#[]⟩) := cell_of_row W5 _ 5 _ 27 (0, 0) hr2
    have df5 : W5.frozen? ⟨b2, 5, none⟩ = false := Row.frozen hr2 5
    have d6 : W5.cell? ⟨b2, 6, none⟩ = some (.bool false) := cell_of_row W5 _ 6 _ 27 (0, 0) hr2
    have df6 : W5.frozen? ⟨b2, 6, none⟩ = false := Row.frozen hr2 6
    clear hr2 hr5
    go_wp2
    exact hbad.out W5 400 _ (H3.out.2.1.below HBW.out H3.out.2.1.lt) (H3.out.1.trans (HBW.out.mono H3.out.1.size)) rfl rfl rfl HOb.out
  have ho2' : ok2 = true := by simpa using ho2
  subst ho2'
  clear ho2
  have hv2 := hv rfl
  have HV := Lib.hid hv2
  have HOG : Hid (O = match linesH ⟨[], 0, 0, none, [], v == 10⟩ lr with
      | none => .bad 400
      | some h => if (v = 11 ∧ h.hosts ≠ 1) ∨ 1 < h.coded ∨ (h.coded = 1 ∧ (v = 10 ∨ h.len ≠ none)) then .bad 400
        else if h.coded = 1 then .ok ⟨m, pa, qa, v, h.fs, [], h.cl⟩ none
        else if 4096 < h.len.getD 0 then .bad 413
        else .ok ⟨m, pa, qa, v, h.fs, [], h.cl⟩ (some (h.len.getD 0))) := Lib.hid (by rw [HOF.out, if_neg (by simp)])
  have q10 : ((v : Int) == 10) = (v == 10) := by rw [Bool.eq_iff_iff, beq_iff_eq, beq_iff_eq]; omega
  have HQ := Lib.hid q10
  obtain ⟨cl0, hcl0⟩ : ∃ c, c = (v == 10) := ⟨_, rfl⟩
  rw [← hcl0] at q10 HOG
  clear hcl0 hv hv2 HOF
  go_wp2_with fail
  refine (HDP.out W3).mono ?_
  rintro e W4 ⟨rfl, hD4⟩
  have HD4 := Lib.hid hD4
  clear hD4
  go_wp2_with fail
  refine (HDT.out W4).mono ?_
  rintro e W5 ⟨rfl, hD5⟩
  have HD5 := Lib.hid (HD4.out.trans hD5)
  clear hD5
  obtain ⟨b14, hb14⟩ : ∃ b, b = W5.heap.size := ⟨_, rfl⟩
  obtain ⟨W6, hW6⟩ : ∃ W, W = W5.alloc (.cells (rqCells m pa qa v (.slice none 0 0) [] cl0) 27) := ⟨_, rfl⟩
  have hW6' : W6 = W5.alloc (.cells #[S m, S pa, S qa, .int .i64 (v : Int), .slice none 0 0, .string ⟨#[]⟩, .bool cl0] 27) := hW6
  have hs6 : W6.heap.size = b14 + 1 := by rw [hW6, alloc_size, hb14]
  have H6 : Hid (HdS W3 b14 (b14 + 1) m pa qa v [] cl0 W6 ∧ W3.heap.size ≤ b14) := Lib.hid ⟨⟨⟨.slice none 0 0, by rw [hW6, hb14]; exact row_new _ _ _, World.ownsRow_nil _ _ _ _⟩, by rw [hW6]; exact HD5.out.below.alloc HD5.out.below.size _, by omega⟩, by rw [hb14]; exact HD5.out.below.size⟩
  go_wp2
  rw [← hW6', ← hb14]
  clear hW6' hW6 hb14 hs6
  clear HDP HDT g1
  go_loopw [15, 16, 17, 18, 19] (fun hv cv lv tv iv wr => ∃ (j : Nat) (h : Hs), 1 ≤ j ∧ j ≤ N ∧ iv = .int .i64 (j : Int) ∧ hv = .int .i64 (h.hosts : Int) ∧ cv = .int .i64 (h.coded : Int) ∧ lv = optV h.len ∧ tv = S h.text ∧ h.hosts ≤ j ∧ h.coded ≤ j ∧ h.fs.length ≤ j ∧ (∀ k, h.len = some k → k ≤ 5000) ∧
      linesH ⟨[], 0, 0, none, [], cl0⟩ lr = linesH h (ls.drop j) ∧ HdS W3 b14 (b14 + 1) m pa qa v h.fs h.cl wr) (fun _ _ _ _ iv _ => N - (intOf iv).toNat)
  case atStart => exact ⟨1, ⟨[], 0, 0, none, [], cl0⟩, Nat.le_refl _, hN1, rfl, rfl, rfl, rfl, rfl, Nat.zero_le _, Nat.zero_le _, Nat.zero_le _, (fun k hk => by cases hk), (by rw [HLC.out]; rfl), H6.out.1⟩
  case round =>
    obtain ⟨j, h, hj1, hjN, rfl, rfl, rfl, rfl, rfl, hho, hco, hfl, hln5, hlin, hS⟩ := hrel
    obtain ⟨hfs, hh, hc, ln, tx, hcl⟩ := h
    dsimp only at hho hco hfl hln5 hS ⊢
    have HLIN := Lib.hid hlin
    have HS := Lib.hid hS
    have HLN5 := Lib.hid hln5
    clear hlin hS hln5
    have hN33 : N ≤ 33 := by omega
    by_cases hlt : j < N
    · have gj : decide ((j : Int) < (N : Int)) = true := decide_eq_true (by omega)
      have hwj : IntKind.i64.wrap ((j : Int) + 1) = (j : Int) + 1 := by rw [IntKind.wrap_i64]; omega
      obtain ⟨l, hl⟩ : ∃ l, ls[j]? = some l := ⟨ls[j]'(by have := HN.out; omega), List.getElem?_eq_getElem _⟩
      have hix := HI.out j hlt
      have hlc := HL.out j l hl wr HS.out.bel
      have hll : l.length ≤ 100000 := by have := HLL.out.1 l (List.mem_of_getElem? hl); omega
      have hdrop : ls.drop j = l :: ls.drop (j + 1) := by
        rw [List.drop_eq_getElem_cons (by have := HN.out; omega), (List.getElem?_eq_some_iff.1 hl).2]
      have hlin := HLIN.out
      rw [hdrop, linesH_cons] at hlin
      have HLI := Lib.hid hlin
      have hpc := fun w => parse_any l hll w
      have hplen : (parseF l).1.length ≤ 100000 ∧ (parseF l).2.1.length ≤ 100000 := by
        obtain ⟨⟨a1, a2, a3⟩, ha⟩ : ∃ x, parseF l = x := ⟨_, rfl⟩
        rw [ha]
        cases a3 with
        | true => obtain ⟨_, _, _, h4, h5, _⟩ := parse_true ha; exact ⟨by dsimp only; omega, by dsimp only; omega⟩
        | false => obtain ⟨h4, h5⟩ := parse_no ha; subst h4 h5; simp
      have HLH : Hid (∀ x, parseF l = x → lineH ⟨hfs, hh, hc, ln, tx, hcl⟩ l = if x.2.2 = false then none
        else if alikeF x.1 teL = true ∧ alikeF x.2.1 chL = false then none
        else if alikeF x.1 clL = true ∧ (numF x.2.1 = none ∨ (ln ≠ none ∧ x.2.1 ≠ tx)) then none
        else some ⟨hfs ++ [(x.1, x.2.1)], hh + (alikeF x.1 hostL).toNat, hc + (alikeF x.1 teL).toNat, (if alikeF x.1 clL = true then numF x.2.1 else ln), (if alikeF x.1 clL = true then x.2.1 else tx), hcl || (alikeF x.1 coL && hasF x.2.1 closeL)⟩) := Lib.hid fun x hx => by subst hx; rfl
      obtain ⟨⟨n, u, ok⟩, hp⟩ : ∃ x, parseF l = x := ⟨_, rfl⟩
      rw [hp] at hpc hplen
      rw [show parseV (n, u, ok) = .tuple #[.agg #[S n, S u], .bool ok] from rfl] at hpc
      have hlh := HLH.out _ hp
      dsimp only at hlh hplen
      have HPC := Lib.hid hpc
      have HPL := Lib.hid hplen
      have HLHH := Lib.hid hlh
      clear hpc hplen hlh HLH hp hdrop hlin hll hl HLIN
      go_wp2_with fail
      refine (HPC.out wr).mono ?_
      rintro e W7 ⟨rfl, hB7⟩
      have H7 := Lib.hid (HS.out.below hB7)
      clear hB7 HPC HS hlc hix
      cases ok with
      | false =>
        have hln : lineH ⟨hfs, hh, hc, ln, tx, hcl⟩ l = none := by rw [HLHH.out]; rw [if_pos rfl]
        have HOb : Hid (O = .bad 400) := Lib.hid (by
          have h2 := HLI.out
          rw [hln] at h2
          rw [HOG.out, h2])
        have HBW : Hid (Below W3.heap.size W3 (W7.alloc (.cells #[S n, S u] 47))) := Lib.hid (H7.out.bel.alloc H7.out.bel.size _)
        clear hln
        have hr2 := H3.out.2.1.below HBW.out H3.out.2.1.lt
        have hr5 := H3.out.2.2.below HBW.out H3.out.2.2.lt
        have c0 : (W7.alloc (.cells #[S n, S u] 47)).cell? ⟨b5, 0, none⟩ = some (.string ⟨#[]⟩) := cell_of_row (W7.alloc (.cells #[S n, S u] 47)) _ 0 _ 27 (0, 0) hr5
        have c1 : (W7.alloc (.cells #[S n, S u] 47)).cell? ⟨b5, 1, none⟩ = some (.string ⟨#[]⟩) := cell_of_row (W7.alloc (.cells #[S n, S u] 47)) _ 1 _ 27 (0, 0) hr5
        have c2 : (W7.alloc (.cells #[S n, S u] 47)).cell? ⟨b5, 2, none⟩ = some (.string ⟨#[]⟩) := cell_of_row (W7.alloc (.cells #[S n, S u] 47)) _ 2 _ 27 (0, 0) hr5
        have c3 : (W7.alloc (.cells #[S n, S u] 47)).cell? ⟨b5, 3, none⟩ = some (.int .i64 0) := cell_of_row (W7.alloc (.cells #[S n, S u] 47)) _ 3 _ 27 (0, 0) hr5
        have c4 : (W7.alloc (.cells #[S n, S u] 47)).cell? ⟨b5, 4, none⟩ = some (.slice none 0 0) := cell_of_row (W7.alloc (.cells #[S n, S u] 47)) _ 4 _ 27 (0, 0) hr5
        have c5 : (W7.alloc (.cells #[S n, S u] 47)).cell? ⟨b5, 5, none⟩ = some (.string ⟨#[]⟩) := cell_of_row (W7.alloc (.cells #[S n, S u] 47)) _ 5 _ 27 (0, 0) hr5
        have c6 : (W7.alloc (.cells #[S n, S u] 47)).cell? ⟨b5, 6, none⟩ = some (.bool false) := cell_of_row (W7.alloc (.cells #[S n, S u] 47)) _ 6 _ 27 (0, 0) hr5
        have d0 : (W7.alloc (.cells #[S n, S u] 47)).cell? ⟨b2, 0, none⟩ = some (.string ⟨#[]⟩) := cell_of_row (W7.alloc (.cells #[S n, S u] 47)) _ 0 _ 27 (0, 0) hr2
        have df0 : (W7.alloc (.cells #[S n, S u] 47)).frozen? ⟨b2, 0, none⟩ = false := Row.frozen hr2 0
        have d1 : (W7.alloc (.cells #[S n, S u] 47)).cell? ⟨b2, 1, none⟩ = some (.string ⟨#[]⟩) := cell_of_row (W7.alloc (.cells #[S n, S u] 47)) _ 1 _ 27 (0, 0) hr2
        have df1 : (W7.alloc (.cells #[S n, S u] 47)).frozen? ⟨b2, 1, none⟩ = false := Row.frozen hr2 1
        have d2 : (W7.alloc (.cells #[S n, S u] 47)).cell? ⟨b2, 2, none⟩ = some (.string ⟨#[]⟩) := cell_of_row (W7.alloc (.cells #[S n, S u] 47)) _ 2 _ 27 (0, 0) hr2
        have df2 : (W7.alloc (.cells #[S n, S u] 47)).frozen? ⟨b2, 2, none⟩ = false := Row.frozen hr2 2
        have d3 : (W7.alloc (.cells #[S n, S u] 47)).cell? ⟨b2, 3, none⟩ = some (.int .i64 0) := cell_of_row (W7.alloc (.cells #[S n, S u] 47)) _ 3 _ 27 (0, 0) hr2
        have df3 : (W7.alloc (.cells #[S n, S u] 47)).frozen? ⟨b2, 3, none⟩ = false := Row.frozen hr2 3
        have d4 : (W7.alloc (.cells #[S n, S u] 47)).cell? ⟨b2, 4, none⟩ = some (.slice none 0 0) := cell_of_row (W7.alloc (.cells #[S n, S u] 47)) _ 4 _ 27 (0, 0) hr2
        have df4 : (W7.alloc (.cells #[S n, S u] 47)).frozen? ⟨b2, 4, none⟩ = false := Row.frozen hr2 4
        have d5 : (W7.alloc (.cells #[S n, S u] 47)).cell? ⟨b2, 5, none⟩ = some (.string ⟨#[]⟩) := cell_of_row (W7.alloc (.cells #[S n, S u] 47)) _ 5 _ 27 (0, 0) hr2
        have df5 : (W7.alloc (.cells #[S n, S u] 47)).frozen? ⟨b2, 5, none⟩ = false := Row.frozen hr2 5
        have d6 : (W7.alloc (.cells #[S n, S u] 47)).cell? ⟨b2, 6, none⟩ = some (.bool false) := cell_of_row (W7.alloc (.cells #[S n, S u] 47)) _ 6 _ 27 (0, 0) hr2
        have df6 : (W7.alloc (.cells #[S n, S u] 47)).frozen? ⟨b2, 6, none⟩ = false := Row.frozen hr2 6
        clear hr2 hr5
        go_wp2
        exact hbad.out (W7.alloc (.cells #[S n, S u] 47)) 400 _ (H3.out.2.1.below HBW.out H3.out.2.1.lt) (H3.out.1.trans (HBW.out.mono H3.out.1.size)) rfl rfl rfl HOb.out
      | true =>
        have hlh := HLHH.out
        rw [if_neg Bool.noConfusion] at hlh
        have HLH := Lib.hid hlh
        clear hlh HLHH
        obtain ⟨V, hr7, ho7⟩ := H7.out.ex
        have hrV : Row (W7.alloc (.cells #[S n, S u] 47)) b14 (rqCells m pa qa v V [] hcl) 27 := hr7.alloc _
        have hoV : (W7.alloc (.cells #[S n, S u] 47)).ownsRow (b14 + 1) 47 2 V hfs.length (fcells hfs) := ho7.alloc _
        have hrK : Row (W7.alloc (.cells #[S n, S u] 47)) W7.heap.size #[S n, S u] 47 := row_new W7 _ _
        have hB8 : Below W3.heap.size W3 (W7.alloc (.cells #[S n, S u] 47)) := H7.out.bel.alloc H7.out.bel.size _
        have hb8 : b14 + 1 ≤ ((W7.alloc (.cells #[S n, S u] 47))).heap.size := by rw [alloc_size]; have := H7.out.size; omega
        have c4 : ((W7.alloc (.cells #[S n, S u] 47))).cell? ⟨b14, 4, none⟩ = some V := cell_of_row _ _ 4 _ 27 (0, 0) hrV
        have k0 : ((W7.alloc (.cells #[S n, S u] 47))).cell? ⟨W7.heap.size, 0, none⟩ = some (S n) := cell_of_row _ _ 0 _ 47 (0, 0) hrK
        have k1 : ((W7.alloc (.cells #[S n, S u] 47))).cell? ⟨W7.heap.size, 1, none⟩ = some (S u) := cell_of_row _ _ 1 _ 47 (0, 0) hrK
        have HRV := Lib.hid hrV
        have HOV := Lib.hid hoV
        have HRK := Lib.hid hrK
        have HB8 := Lib.hid hB8
        have HNE : Hid (some b14 ≠ V.ownBlock) := Lib.hid fun e => by have := (ho7.lt b14 e.symm).1; omega
        have HNK : Hid (some W7.heap.size ≠ V.ownBlock) := Lib.hid fun e => by have := (ho7.lt _ e.symm).2; omega
        have HK14 : Hid (b14 ≠ W7.heap.size) := Lib.hid (by have := H7.out.size; omega)
        have hlf : hfs.length < 1000000 := by omega
        have hone : ∀ x ∈ (#[S n, S u] : Array Value).toList, x.oneCell' = true := by
          intro x hx
          simp only [List.mem_cons, List.not_mem_nil, or_false] at hx
          rcases hx with rfl | rfl <;> rfl
        obtain ⟨a1, ha1⟩ : ∃ a, a = alikeF n hostL := ⟨_, rfl⟩
        obtain ⟨a2, ha2⟩ : ∃ a, a = alikeF n teL := ⟨_, rfl⟩
        obtain ⟨a3, ha3⟩ : ∃ a, a = alikeF u chL := ⟨_, rfl⟩
        obtain ⟨a4, ha4⟩ : ∃ a, a = alikeF n clL := ⟨_, rfl⟩
        obtain ⟨a5, ha5⟩ : ∃ a, a = alikeF n coL := ⟨_, rfl⟩
        obtain ⟨a6, ha6⟩ : ∃ a, a = hasF u closeL := ⟨_, rfl⟩
        obtain ⟨nu, hnu⟩ : ∃ a, a = numF u := ⟨_, rfl⟩
        have hlh := HLH.out
        rw [← ha1, ← ha2, ← ha3, ← ha4, ← ha5, ← ha6, ← hnu] at hlh
        have HLX := Lib.hid hlh
        have HNU : Hid (∀ k, nu = some k → k ≤ 5000) := Lib.hid fun k hk => numF_le (hnu.symm.trans hk)
        have HA1 : Hid (∀ W, Calls Tryz.prog 53 #[S n, .string ⟨#[104, 111, 115, 116]⟩] W fun e w' => e = .returned (.bool a1) ∧ Drawn W w') := Lib.hid fun W => by rw [ha1]; exact alike_any n hostL HPL.out.1 (by decide) W
        have HA2 : Hid (∀ W, Calls Tryz.prog 53 #[S n, .string ⟨#[116, 114, 97, 110, 115, 102, 101, 114, 45, 101, 110, 99, 111, 100, 105, 110, 103]⟩] W fun e w' => e = .returned (.bool a2) ∧ Drawn W w') := Lib.hid fun W => by rw [ha2]; exact alike_any n teL HPL.out.1 (by decide) W
        have HA3 : Hid (∀ W, Calls Tryz.prog 53 #[S u, .string ⟨#[99, 104, 117, 110, 107, 101, 100]⟩] W fun e w' => e = .returned (.bool a3) ∧ Drawn W w') := Lib.hid fun W => by rw [ha3]; exact alike_any u chL HPL.out.2 (by decide) W
        have HA4 : Hid (∀ W, Calls Tryz.prog 53 #[S n, .string ⟨#[99, 111, 110, 116, 101, 110, 116, 45, 108, 101, 110, 103, 116, 104]⟩] W fun e w' => e = .returned (.bool a4) ∧ Drawn W w') := Lib.hid fun W => by rw [ha4]; exact alike_any n clL HPL.out.1 (by decide) W
        have HA5 : Hid (∀ W, Calls Tryz.prog 53 #[S n, .string ⟨#[99, 111, 110, 110, 101, 99, 116, 105, 111, 110]⟩] W fun e w' => e = .returned (.bool a5) ∧ Drawn W w') := Lib.hid fun W => by rw [ha5]; exact alike_any n coL HPL.out.1 (by decide) W
        have HA6 : Hid (∀ W, Calls Tryz.prog 55 #[S u, .string ⟨#[99, 108, 111, 115, 101]⟩] W fun e w' => e = .returned (.bool a6) ∧ Below W.heap.size W w') := Lib.hid fun W => by rw [ha6]; exact has_any u closeL HPL.out.2 (by decide) W
        have HNM : Hid (∀ W, Calls Tryz.prog 54 #[S u] W fun e w' => e = .returned (optV nu) ∧ w' = W) := Lib.hid fun W => by rw [hnu]; exact dnumber_any u HPL.out.2 W
        clear hrV hrK hoV hr7 ho7 hB8 hlh HLH HPL ha1 ha2 ha3 ha4 ha5 ha6 hnu
        go_wp2_with (at_builtin; refine wpList_addK rfl 25 47 (.tmp 77) (.tmp 79) rfl Tryz.underlying25 eleF (by omega) (b14 + 1) (W7.alloc (.cells #[S n, S u] 47)) V rfl hfs.length (fcells hfs) HOV.out #[S n, S u] rfl hone rfl (W7.heap.size + 1) (alloc_size W7 _) rfl hlf hb8 ?_; intro gg cap W9 o2 g2; have c49 : W9.cell? ⟨b14, 4, none⟩ = some V := cell_of_row _ _ 4 _ 27 (0, 0) (row_grown HRV.out g2 HNE.out); have f49 : W9.frozen? ⟨b14, 4, none⟩ = false := Row.frozen (row_grown HRV.out g2 HNE.out) 4; have k09 : (W9.setCell ⟨b14, 4, none⟩ (.slice (some ⟨gg, 0, none⟩) (hfs.length + 1) cap)).cell? ⟨W7.heap.size, 0, none⟩ = some (S n) := cell_of_row _ _ 0 _ 47 (0, 0) ((row_grown HRK.out g2 HNK.out).other (fun e => HK14.out e.symm)); have HO2 := Lib.hid o2; have HG2 := Lib.hid g2; clear o2 g2)
        have H10 : Hid (Mid W3 b14 (b14 + 1) m pa qa v (hfs ++ [(n, u)]) hcl W7.heap.size n u (W9.setCell ⟨b14, 4, none⟩ (.slice (some ⟨gg, 0, none⟩) (hfs.length + 1) cap))) := Lib.hid ⟨hds_grow HRV.out HOV.out HB8.out hb8 (by omega) H6.out.2 HO2.out HG2.out, (row_grown HRK.out HG2.out HNK.out).other (fun e => HK14.out e.symm)⟩
        clear k09 c49 f49 c4 k0 k1 hone HRV HOV HRK HB8 HNE HNK HK14 HO2 HG2 hb8
        generalize W9.setCell ⟨b14, 4, none⟩ (.slice (some ⟨gg, 0, none⟩) (hfs.length + 1) cap) = W10 at *
        generalize W7.heap.size = K at *
        refine (HA1.out W10).mono ?_
        rintro e W11 ⟨rfl, hD⟩
        have H11 := Lib.hid (H10.out.below hD.below)
        clear hD
        have k0 : W11.cell? ⟨K, 0, none⟩ = some (S n) := cell_of_row _ _ 0 _ 47 (0, 0) H11.out.2
        have k1 : W11.cell? ⟨K, 1, none⟩ = some (S u) := cell_of_row _ _ 1 _ 47 (0, 0) H11.out.2
        cases a1 with
        | false =>
          go_wp2_with fail
          refine (HA2.out W11).mono ?_
          rintro e W12 ⟨rfl, hD⟩
          have H12 := Lib.hid (H11.out.below hD.below)
          clear hD k0 k1
          have k0 : W12.cell? ⟨K, 0, none⟩ = some (S n) := cell_of_row _ _ 0 _ 47 (0, 0) H12.out.2
          have k1 : W12.cell? ⟨K, 1, none⟩ = some (S u) := cell_of_row _ _ 1 _ 47 (0, 0) H12.out.2
          cases a2 with
          | false =>
            go_wp2_with fail
            refine (HA4.out W12).mono ?_
            rintro e W13 ⟨rfl, hD⟩
            have H13 := Lib.hid (H12.out.below hD.below)
            clear hD k0 k1
            have k0 : W13.cell? ⟨K, 0, none⟩ = some (S n) := cell_of_row _ _ 0 _ 47 (0, 0) H13.out.2
            have k1 : W13.cell? ⟨K, 1, none⟩ = some (S u) := cell_of_row _ _ 1 _ 47 (0, 0) H13.out.2
            cases a4 with
            | false =>
              go_wp2_with fail
              refine (HA5.out W13).mono ?_
              rintro e W14 ⟨rfl, hD⟩
              have H14 := Lib.hid (H13.out.below hD.below)
              clear hD k0 k1
              have k0 : W14.cell? ⟨K, 0, none⟩ = some (S n) := cell_of_row _ _ 0 _ 47 (0, 0) H14.out.2
              have k1 : W14.cell? ⟨K, 1, none⟩ = some (S u) := cell_of_row _ _ 1 _ 47 (0, 0) H14.out.2
              cases a5 with
              | false =>
                have hl : lineH ⟨hfs, hh, hc, ln, tx, hcl⟩ l = some ⟨hfs ++ [(n, u)], hh, hc, ln, tx, hcl⟩ := by rw [HLX.out]; simp
                have HLN2 : Hid (linesH ⟨[], 0, 0, none, [], cl0⟩ lr = linesH ⟨hfs ++ [(n, u)], hh, hc, ln, tx, hcl⟩ (ls.drop (j + 1))) := Lib.hid (by
                  have h2 := HLI.out
                  rw [hl] at h2
                  exact h2)
                have HL5 : Hid (∀ k', ln = some k' → k' ≤ 5000) := Lib.hid (HLN5.out)
                clear hl
                go_wp2
                exact ⟨⟨j + 1, ⟨hfs ++ [(n, u)], hh, hc, ln, tx, hcl⟩, by omega, by omega, by go_num, by first | rfl | go_num, by first | rfl | go_num, rfl, rfl, by dsimp only; omega, by dsimp only; omega, by rw [List.length_append, List.length_singleton]; omega, HL5.out, HLN2.out, H14.out.1⟩, by simp [intOf]; omega⟩
              | true =>
                go_wp2_with fail
                refine (HA6.out W14).mono ?_
                rintro e W15 ⟨rfl, hD⟩
                have H15 := Lib.hid (H14.out.below hD)
                clear hD k0 k1
                have k0 : W15.cell? ⟨K, 0, none⟩ = some (S n) := cell_of_row _ _ 0 _ 47 (0, 0) H15.out.2
                have k1 : W15.cell? ⟨K, 1, none⟩ = some (S u) := cell_of_row _ _ 1 _ 47 (0, 0) H15.out.2
                cases a6 with
                | false =>
                  have hl : lineH ⟨hfs, hh, hc, ln, tx, hcl⟩ l = some ⟨hfs ++ [(n, u)], hh, hc, ln, tx, hcl⟩ := by rw [HLX.out]; simp
                  have HLN2 : Hid (linesH ⟨[], 0, 0, none, [], cl0⟩ lr = linesH ⟨hfs ++ [(n, u)], hh, hc, ln, tx, hcl⟩ (ls.drop (j + 1))) := Lib.hid (by
                    have h2 := HLI.out
                    rw [hl] at h2
                    exact h2)
                  have HL5 : Hid (∀ k', ln = some k' → k' ≤ 5000) := Lib.hid (HLN5.out)
                  clear hl
                  go_wp2
                  exact ⟨⟨j + 1, ⟨hfs ++ [(n, u)], hh, hc, ln, tx, hcl⟩, by omega, by omega, by go_num, by first | rfl | go_num, by first | rfl | go_num, rfl, rfl, by dsimp only; omega, by dsimp only; omega, by rw [List.length_append, List.length_singleton]; omega, HL5.out, HLN2.out, H15.out.1⟩, by simp [intOf]; omega⟩
                | true =>
                  have hl : lineH ⟨hfs, hh, hc, ln, tx, hcl⟩ l = some ⟨hfs ++ [(n, u)], hh, hc, ln, tx, true⟩ := by rw [HLX.out]; simp
                  have HLN2 : Hid (linesH ⟨[], 0, 0, none, [], cl0⟩ lr = linesH ⟨hfs ++ [(n, u)], hh, hc, ln, tx, true⟩ (ls.drop (j + 1))) := Lib.hid (by
                    have h2 := HLI.out
                    rw [hl] at h2
                    exact h2)
                  have HL5 : Hid (∀ k', ln = some k' → k' ≤ 5000) := Lib.hid (HLN5.out)
                  clear hl
                  obtain ⟨V', hrV', _⟩ := H15.out.1.ex
                  have c6 : W15.cell? ⟨b14, 6, none⟩ = some (.bool hcl) := cell_of_row _ _ 6 _ 27 (0, 0) hrV'
                  have f6 : W15.frozen? ⟨b14, 6, none⟩ = false := Row.frozen hrV' 6
                  have HCL := Lib.hid (H15.out.1.close (by omega) H6.out.2)
                  clear hrV'
                  go_wp2
                  exact ⟨⟨j + 1, ⟨hfs ++ [(n, u)], hh, hc, ln, tx, true⟩, by omega, by omega, by go_num, by first | rfl | go_num, by first | rfl | go_num, rfl, rfl, by dsimp only; omega, by dsimp only; omega, by rw [List.length_append, List.length_singleton]; omega, HL5.out, HLN2.out, HCL.out⟩, by simp [intOf]; omega⟩
            | true =>
              go_wp2_with fail
              refine (HNM.out W13).mono ?_
              rintro e w1 ⟨rfl, hw1⟩
              obtain rfl := hw1.symm
              clear hw1
              cases nu with
              | none =>
                rw [show optV none = .int .i64 (-1) from rfl]
                have hln : lineH ⟨hfs, hh, hc, ln, tx, hcl⟩ l = none := by rw [HLX.out]; simp
                have HOb : Hid (O = .bad 400) := Lib.hid (by
                  have h2 := HLI.out
                  rw [hln] at h2
                  rw [HOG.out, h2])
                have HBW : Hid (Below W3.heap.size W3 W13) := Lib.hid H13.out.1.bel
                clear hln
                have hr2 := H3.out.2.1.below HBW.out H3.out.2.1.lt
                have hr5 := H3.out.2.2.below HBW.out H3.out.2.2.lt
                have c0 : W13.cell? ⟨b5, 0, none⟩ = some (.string ⟨#[]⟩) := cell_of_row W13 _ 0 _ 27 (0, 0) hr5
                have c1 : W13.cell? ⟨b5, 1, none⟩ = some (.string ⟨#[]⟩) := cell_of_row W13 _ 1 _ 27 (0, 0) hr5
                have c2 : W13.cell? ⟨b5, 2, none⟩ = some (.string ⟨#[]⟩) := cell_of_row W13 _ 2 _ 27 (0, 0) hr5
                have c3 : W13.cell? ⟨b5, 3, none⟩ = some (.int .i64 0) := cell_of_row W13 _ 3 _ 27 (0, 0) hr5
                have c4 : W13.cell? ⟨b5, 4, none⟩ = some (.slice none 0 0) := cell_of_row W13 _ 4 _ 27 (0, 0) hr5
                have c5 : W13.cell? ⟨b5, 5, none⟩ = some (.string ⟨#[]⟩) := cell_of_row W13 _ 5 _ 27 (0, 0) hr5
                have c6 : W13.cell? ⟨b5, 6, none⟩ = some (.bool false) := cell_of_row W13 _ 6 _ 27 (0, 0) hr5
                have d0 : W13.cell? ⟨b2, 0, none⟩ = some (.string ⟨#[]⟩) := cell_of_row W13 _ 0 _ 27 (0, 0) hr2
                have df0 : W13.frozen? ⟨b2, 0, none⟩ = false := Row.frozen hr2 0
                have d1 : W13.cell? ⟨b2, 1, none⟩ = some (.string ⟨#[]⟩) := cell_of_row W13 _ 1 _ 27 (0, 0) hr2
                have df1 : W13.frozen? ⟨b2, 1, none⟩ = false := Row.frozen hr2 1
                have d2 : W13.cell? ⟨b2, 2, none⟩ = some (.string ⟨#[]⟩) := cell_of_row W13 _ 2 _ 27 (0, 0) hr2
                have df2 : W13.frozen? ⟨b2, 2, none⟩ = false := Row.frozen hr2 2
                have d3 : W13.cell? ⟨b2, 3, none⟩ = some (.int .i64 0) := cell_of_row W13 _ 3 _ 27 (0, 0) hr2
                have df3 : W13.frozen? ⟨b2, 3, none⟩ = false := Row.frozen hr2 3
                have d4 : W13.cell? ⟨b2, 4, none⟩ = some (.slice none 0 0) := cell_of_row W13 _ 4 _ 27 (0, 0) hr2
                have df4 : W13.frozen? ⟨b2, 4, none⟩ = false := Row.frozen hr2 4
                have d5 : W13.cell? ⟨b2, 5, none⟩ = some (.string ⟨#[]⟩) := cell_of_row W13 _ 5 _ 27 (0, 0) hr2
                have df5 : W13.frozen? ⟨b2, 5, none⟩ = false := Row.frozen hr2 5
                have d6 : W13.cell? ⟨b2, 6, none⟩ = some (.bool false) := cell_of_row W13 _ 6 _ 27 (0, 0) hr2
                have df6 : W13.frozen? ⟨b2, 6, none⟩ = false := Row.frozen hr2 6
                clear hr2 hr5
                go_wp2
                exact hbad.out W13 400 _ (H3.out.2.1.below HBW.out H3.out.2.1.lt) (H3.out.1.trans (HBW.out.mono H3.out.1.size)) rfl rfl rfl HOb.out
              | some k =>
                have hk5 := HNU.out k rfl
                have gk : decide ((k : Int) < 0) = false := decide_eq_false (by omega)
                rw [show optV (some k) = .int .i64 (k : Int) from rfl]
                cases ln with
                | none =>
                  rw [show optV none = .int .i64 (-1) from rfl]
                  go_wp2_with fail
                  refine (HA5.out W13).mono ?_
                  rintro e W16 ⟨rfl, hD⟩
                  have H16 := Lib.hid (H13.out.below hD.below)
                  clear hD k0 k1
                  have k0 : W16.cell? ⟨K, 0, none⟩ = some (S n) := cell_of_row _ _ 0 _ 47 (0, 0) H16.out.2
                  have k1 : W16.cell? ⟨K, 1, none⟩ = some (S u) := cell_of_row _ _ 1 _ 47 (0, 0) H16.out.2
                  cases a5 with
                  | false =>
                    have hl : lineH ⟨hfs, hh, hc, none, tx, hcl⟩ l = some ⟨hfs ++ [(n, u)], hh, hc, some k, u, hcl⟩ := by rw [HLX.out]; simp
                    have HLN2 : Hid (linesH ⟨[], 0, 0, none, [], cl0⟩ lr = linesH ⟨hfs ++ [(n, u)], hh, hc, some k, u, hcl⟩ (ls.drop (j + 1))) := Lib.hid (by
                      have h2 := HLI.out
                      rw [hl] at h2
                      exact h2)
                    have HL5 : Hid (∀ k', some k = some k' → k' ≤ 5000) := Lib.hid ((fun k' hk => by cases hk; exact hk5))
                    clear hl
                    go_wp2
                    exact ⟨⟨j + 1, ⟨hfs ++ [(n, u)], hh, hc, some k, u, hcl⟩, by omega, by omega, by go_num, by first | rfl | go_num, by first | rfl | go_num, rfl, rfl, by dsimp only; omega, by dsimp only; omega, by rw [List.length_append, List.length_singleton]; omega, HL5.out, HLN2.out, H16.out.1⟩, by simp [intOf]; omega⟩
                  | true =>
                    go_wp2_with fail
                    refine (HA6.out W16).mono ?_
                    rintro e W17 ⟨rfl, hD⟩
                    have H17 := Lib.hid (H16.out.below hD)
                    clear hD k0 k1
                    have k0 : W17.cell? ⟨K, 0, none⟩ = some (S n) := cell_of_row _ _ 0 _ 47 (0, 0) H17.out.2
                    have k1 : W17.cell? ⟨K, 1, none⟩ = some (S u) := cell_of_row _ _ 1 _ 47 (0, 0) H17.out.2
                    cases a6 with
                    | false =>
                      have hl : lineH ⟨hfs, hh, hc, none, tx, hcl⟩ l = some ⟨hfs ++ [(n, u)], hh, hc, some k, u, hcl⟩ := by rw [HLX.out]; simp
                      have HLN2 : Hid (linesH ⟨[], 0, 0, none, [], cl0⟩ lr = linesH ⟨hfs ++ [(n, u)], hh, hc, some k, u, hcl⟩ (ls.drop (j + 1))) := Lib.hid (by
                        have h2 := HLI.out
                        rw [hl] at h2
                        exact h2)
                      have HL5 : Hid (∀ k', some k = some k' → k' ≤ 5000) := Lib.hid ((fun k' hk => by cases hk; exact hk5))
                      clear hl
                      go_wp2
                      exact ⟨⟨j + 1, ⟨hfs ++ [(n, u)], hh, hc, some k, u, hcl⟩, by omega, by omega, by go_num, by first | rfl | go_num, by first | rfl | go_num, rfl, rfl, by dsimp only; omega, by dsimp only; omega, by rw [List.length_append, List.length_singleton]; omega, HL5.out, HLN2.out, H17.out.1⟩, by simp [intOf]; omega⟩
                    | true =>
                      have hl : lineH ⟨hfs, hh, hc, none, tx, hcl⟩ l = some ⟨hfs ++ [(n, u)], hh, hc, some k, u, true⟩ := by rw [HLX.out]; simp
                      have HLN2 : Hid (linesH ⟨[], 0, 0, none, [], cl0⟩ lr = linesH ⟨hfs ++ [(n, u)], hh, hc, some k, u, true⟩ (ls.drop (j + 1))) := Lib.hid (by
                        have h2 := HLI.out
                        rw [hl] at h2
                        exact h2)
                      have HL5 : Hid (∀ k', some k = some k' → k' ≤ 5000) := Lib.hid ((fun k' hk => by cases hk; exact hk5))
                      clear hl
                      obtain ⟨V', hrV', _⟩ := H17.out.1.ex
                      have c6 : W17.cell? ⟨b14, 6, none⟩ = some (.bool hcl) := cell_of_row _ _ 6 _ 27 (0, 0) hrV'
                      have f6 : W17.frozen? ⟨b14, 6, none⟩ = false := Row.frozen hrV' 6
                      have HCL := Lib.hid (H17.out.1.close (by omega) H6.out.2)
                      clear hrV'
                      go_wp2
                      exact ⟨⟨j + 1, ⟨hfs ++ [(n, u)], hh, hc, some k, u, true⟩, by omega, by omega, by go_num, by first | rfl | go_num, by first | rfl | go_num, rfl, rfl, by dsimp only; omega, by dsimp only; omega, by rw [List.length_append, List.length_singleton]; omega, HL5.out, HLN2.out, HCL.out⟩, by simp [intOf]; omega⟩
                | some ko =>
                  have hk05 := HLN5.out ko rfl
                  have gk0 : decide ((0 : Int) ≤ (ko : Int)) = true := decide_eq_true (by omega)
                  rw [show optV (some ko) = .int .i64 (ko : Int) from rfl]
                  have qn : binOp .neq 9 (S u) (S tx) = pure (.bool (u != tx)) := neql_S 9 u tx
                  have qg := nguard_S 9
                  by_cases hut : u = tx
                  · rw [show (u != tx) = false by rw [hut]; simp] at qn
                    have HUT := Lib.hid hut
                    clear hut
                    go_wp2_with fail
                    refine (HA5.out W13).mono ?_
                    rintro e W18 ⟨rfl, hD⟩
                    have H18 := Lib.hid (H13.out.below hD.below)
                    clear hD k0 k1
                    have k0 : W18.cell? ⟨K, 0, none⟩ = some (S n) := cell_of_row _ _ 0 _ 47 (0, 0) H18.out.2
                    have k1 : W18.cell? ⟨K, 1, none⟩ = some (S u) := cell_of_row _ _ 1 _ 47 (0, 0) H18.out.2
                    cases a5 with
                    | false =>
                      have hl : lineH ⟨hfs, hh, hc, (some ko), tx, hcl⟩ l = some ⟨hfs ++ [(n, u)], hh, hc, some k, u, hcl⟩ := by rw [HLX.out]; simp [HUT.out]
                      have HLN2 : Hid (linesH ⟨[], 0, 0, none, [], cl0⟩ lr = linesH ⟨hfs ++ [(n, u)], hh, hc, some k, u, hcl⟩ (ls.drop (j + 1))) := Lib.hid (by
                        have h2 := HLI.out
                        rw [hl] at h2
                        exact h2)
                      have HL5 : Hid (∀ k', some k = some k' → k' ≤ 5000) := Lib.hid ((fun k' hk => by cases hk; exact hk5))
                      clear hl
                      go_wp2
                      exact ⟨⟨j + 1, ⟨hfs ++ [(n, u)], hh, hc, some k, u, hcl⟩, by omega, by omega, by go_num, by first | rfl | go_num, by first | rfl | go_num, rfl, rfl, by dsimp only; omega, by dsimp only; omega, by rw [List.length_append, List.length_singleton]; omega, HL5.out, HLN2.out, H18.out.1⟩, by simp [intOf]; omega⟩
                    | true =>
                      go_wp2_with fail
                      refine (HA6.out W18).mono ?_
                      rintro e W19 ⟨rfl, hD⟩
                      have H19 := Lib.hid (H18.out.below hD)
                      clear hD k0 k1
                      have k0 : W19.cell? ⟨K, 0, none⟩ = some (S n) := cell_of_row _ _ 0 _ 47 (0, 0) H19.out.2
                      have k1 : W19.cell? ⟨K, 1, none⟩ = some (S u) := cell_of_row _ _ 1 _ 47 (0, 0) H19.out.2
                      cases a6 with
                      | false =>
                        have hl : lineH ⟨hfs, hh, hc, (some ko), tx, hcl⟩ l = some ⟨hfs ++ [(n, u)], hh, hc, some k, u, hcl⟩ := by rw [HLX.out]; simp [HUT.out]
                        have HLN2 : Hid (linesH ⟨[], 0, 0, none, [], cl0⟩ lr = linesH ⟨hfs ++ [(n, u)], hh, hc, some k, u, hcl⟩ (ls.drop (j + 1))) := Lib.hid (by
                          have h2 := HLI.out
                          rw [hl] at h2
                          exact h2)
                        have HL5 : Hid (∀ k', some k = some k' → k' ≤ 5000) := Lib.hid ((fun k' hk => by cases hk; exact hk5))
                        clear hl
                        go_wp2
                        exact ⟨⟨j + 1, ⟨hfs ++ [(n, u)], hh, hc, some k, u, hcl⟩, by omega, by omega, by go_num, by first | rfl | go_num, by first | rfl | go_num, rfl, rfl, by dsimp only; omega, by dsimp only; omega, by rw [List.length_append, List.length_singleton]; omega, HL5.out, HLN2.out, H19.out.1⟩, by simp [intOf]; omega⟩
                      | true =>
                        have hl : lineH ⟨hfs, hh, hc, (some ko), tx, hcl⟩ l = some ⟨hfs ++ [(n, u)], hh, hc, some k, u, true⟩ := by rw [HLX.out]; simp [HUT.out]
                        have HLN2 : Hid (linesH ⟨[], 0, 0, none, [], cl0⟩ lr = linesH ⟨hfs ++ [(n, u)], hh, hc, some k, u, true⟩ (ls.drop (j + 1))) := Lib.hid (by
                          have h2 := HLI.out
                          rw [hl] at h2
                          exact h2)
                        have HL5 : Hid (∀ k', some k = some k' → k' ≤ 5000) := Lib.hid ((fun k' hk => by cases hk; exact hk5))
                        clear hl
                        obtain ⟨V', hrV', _⟩ := H19.out.1.ex
                        have c6 : W19.cell? ⟨b14, 6, none⟩ = some (.bool hcl) := cell_of_row _ _ 6 _ 27 (0, 0) hrV'
                        have f6 : W19.frozen? ⟨b14, 6, none⟩ = false := Row.frozen hrV' 6
                        have HCL := Lib.hid (H19.out.1.close (by omega) H6.out.2)
                        clear hrV'
                        go_wp2
                        exact ⟨⟨j + 1, ⟨hfs ++ [(n, u)], hh, hc, some k, u, true⟩, by omega, by omega, by go_num, by first | rfl | go_num, by first | rfl | go_num, rfl, rfl, by dsimp only; omega, by dsimp only; omega, by rw [List.length_append, List.length_singleton]; omega, HL5.out, HLN2.out, HCL.out⟩, by simp [intOf]; omega⟩
                  · rw [show (u != tx) = true from bne_iff_ne.2 hut] at qn
                    have HUT := Lib.hid hut
                    clear hut
                    have hln : lineH ⟨hfs, hh, hc, (some ko), tx, hcl⟩ l = none := by rw [HLX.out]; simp [HUT.out]
                    have HOb : Hid (O = .bad 400) := Lib.hid (by
                      have h2 := HLI.out
                      rw [hln] at h2
                      rw [HOG.out, h2])
                    have HBW : Hid (Below W3.heap.size W3 W13) := Lib.hid H13.out.1.bel
                    clear hln
                    have hr2 := H3.out.2.1.below HBW.out H3.out.2.1.lt
                    have hr5 := H3.out.2.2.below HBW.out H3.out.2.2.lt
                    have c0 : W13.cell? ⟨b5, 0, none⟩ = some (.string ⟨#[]⟩) := cell_of_row W13 _ 0 _ 27 (0, 0) hr5
                    have c1 : W13.cell? ⟨b5, 1, none⟩ = some (.string ⟨#[]⟩) := cell_of_row W13 _ 1 _ 27 (0, 0) hr5
                    have c2 : W13.cell? ⟨b5, 2, none⟩ = some (.string ⟨#[]⟩) := cell_of_row W13 _ 2 _ 27 (0, 0) hr5
                    have c3 : W13.cell? ⟨b5, 3, none⟩ = some (.int .i64 0) := cell_of_row W13 _ 3 _ 27 (0, 0) hr5
                    have c4 : W13.cell? ⟨b5, 4, none⟩ = some (.slice none 0 0) := cell_of_row W13 _ 4 _ 27 (0, 0) hr5
                    have c5 : W13.cell? ⟨b5, 5, none⟩ = some (.string ⟨#[]⟩) := cell_of_row W13 _ 5 _ 27 (0, 0) hr5
                    have c6 : W13.cell? ⟨b5, 6, none⟩ = some (.bool false) := cell_of_row W13 _ 6 _ 27 (0, 0) hr5
                    have d0 : W13.cell? ⟨b2, 0, none⟩ = some (.string ⟨#[]⟩) := cell_of_row W13 _ 0 _ 27 (0, 0) hr2
                    have df0 : W13.frozen? ⟨b2, 0, none⟩ = false := Row.frozen hr2 0
                    have d1 : W13.cell? ⟨b2, 1, none⟩ = some (.string ⟨#[]⟩) := cell_of_row W13 _ 1 _ 27 (0, 0) hr2
                    have df1 : W13.frozen? ⟨b2, 1, none⟩ = false := Row.frozen hr2 1
                    have d2 : W13.cell? ⟨b2, 2, none⟩ = some (.string ⟨#[]⟩) := cell_of_row W13 _ 2 _ 27 (0, 0) hr2
                    have df2 : W13.frozen? ⟨b2, 2, none⟩ = false := Row.frozen hr2 2
                    have d3 : W13.cell? ⟨b2, 3, none⟩ = some (.int .i64 0) := cell_of_row W13 _ 3 _ 27 (0, 0) hr2
                    have df3 : W13.frozen? ⟨b2, 3, none⟩ = false := Row.frozen hr2 3
                    have d4 : W13.cell? ⟨b2, 4, none⟩ = some (.slice none 0 0) := cell_of_row W13 _ 4 _ 27 (0, 0) hr2
                    have df4 : W13.frozen? ⟨b2, 4, none⟩ = false := Row.frozen hr2 4
                    have d5 : W13.cell? ⟨b2, 5, none⟩ = some (.string ⟨#[]⟩) := cell_of_row W13 _ 5 _ 27 (0, 0) hr2
                    have df5 : W13.frozen? ⟨b2, 5, none⟩ = false := Row.frozen hr2 5
                    have d6 : W13.cell? ⟨b2, 6, none⟩ = some (.bool false) := cell_of_row W13 _ 6 _ 27 (0, 0) hr2
                    have df6 : W13.frozen? ⟨b2, 6, none⟩ = false := Row.frozen hr2 6
                    clear hr2 hr5
                    go_wp2
                    exact hbad.out W13 400 _ (H3.out.2.1.below HBW.out H3.out.2.1.lt) (H3.out.1.trans (HBW.out.mono H3.out.1.size)) rfl rfl rfl HOb.out
          | true =>
            have hwc : IntKind.i64.wrap ((hc : Int) + 1) = (hc : Int) + 1 := by rw [IntKind.wrap_i64]; omega
            go_wp2_with fail
            refine (HA3.out W12).mono ?_
            rintro e W20 ⟨rfl, hD⟩
            have H20 := Lib.hid (H12.out.below hD.below)
            clear hD k0 k1
            have k0 : W20.cell? ⟨K, 0, none⟩ = some (S n) := cell_of_row _ _ 0 _ 47 (0, 0) H20.out.2
            have k1 : W20.cell? ⟨K, 1, none⟩ = some (S u) := cell_of_row _ _ 1 _ 47 (0, 0) H20.out.2
            cases a3 with
            | false =>
              have hln : lineH ⟨hfs, hh, hc, ln, tx, hcl⟩ l = none := by rw [HLX.out]; simp
              have HOb : Hid (O = .bad 400) := Lib.hid (by
                have h2 := HLI.out
                rw [hln] at h2
                rw [HOG.out, h2])
              have HBW : Hid (Below W3.heap.size W3 W20) := Lib.hid H20.out.1.bel
              clear hln
              have hr2 := H3.out.2.1.below HBW.out H3.out.2.1.lt
              have hr5 := H3.out.2.2.below HBW.out H3.out.2.2.lt
              have c0 : W20.cell? ⟨b5, 0, none⟩ = some (.string ⟨#[]⟩) := cell_of_row W20 _ 0 _ 27 (0, 0) hr5
              have c1 : W20.cell? ⟨b5, 1, none⟩ = some (.string ⟨#[]⟩) := cell_of_row W20 _ 1 _ 27 (0, 0) hr5
              have c2 : W20.cell? ⟨b5, 2, none⟩ = some (.string ⟨#[]⟩) := cell_of_row W20 _ 2 _ 27 (0, 0) hr5
              have c3 : W20.cell? ⟨b5, 3, none⟩ = some (.int .i64 0) := cell_of_row W20 _ 3 _ 27 (0, 0) hr5
              have c4 : W20.cell? ⟨b5, 4, none⟩ = some (.slice none 0 0) := cell_of_row W20 _ 4 _ 27 (0, 0) hr5
              have c5 : W20.cell? ⟨b5, 5, none⟩ = some (.string ⟨#[]⟩) := cell_of_row W20 _ 5 _ 27 (0, 0) hr5
              have c6 : W20.cell? ⟨b5, 6, none⟩ = some (.bool false) := cell_of_row W20 _ 6 _ 27 (0, 0) hr5
              have d0 : W20.cell? ⟨b2, 0, none⟩ = some (.string ⟨#[]⟩) := cell_of_row W20 _ 0 _ 27 (0, 0) hr2
              have df0 : W20.frozen? ⟨b2, 0, none⟩ = false := Row.frozen hr2 0
              have d1 : W20.cell? ⟨b2, 1, none⟩ = some (.string ⟨#[]⟩) := cell_of_row W20 _ 1 _ 27 (0, 0) hr2
              have df1 : W20.frozen? ⟨b2, 1, none⟩ = false := Row.frozen hr2 1
              have d2 : W20.cell? ⟨b2, 2, none⟩ = some (.string ⟨#[]⟩) := cell_of_row W20 _ 2 _ 27 (0, 0) hr2
              have df2 : W20.frozen? ⟨b2, 2, none⟩ = false := Row.frozen hr2 2
              have d3 : W20.cell? ⟨b2, 3, none⟩ = some (.int .i64 0) := cell_of_row W20 _ 3 _ 27 (0, 0) hr2
              have df3 : W20.frozen? ⟨b2, 3, none⟩ = false := Row.frozen hr2 3
              have d4 : W20.cell? ⟨b2, 4, none⟩ = some (.slice none 0 0) := cell_of_row W20 _ 4 _ 27 (0, 0) hr2
              have df4 : W20.frozen? ⟨b2, 4, none⟩ = false := Row.frozen hr2 4
              have d5 : W20.cell? ⟨b2, 5, none⟩ = some (.string ⟨#[]⟩) := cell_of_row W20 _ 5 _ 27 (0, 0) hr2
              have df5 : W20.frozen? ⟨b2, 5, none⟩ = false := Row.frozen hr2 5
              have d6 : W20.cell? ⟨b2, 6, none⟩ = some (.bool false) := cell_of_row W20 _ 6 _ 27 (0, 0) hr2
              have df6 : W20.frozen? ⟨b2, 6, none⟩ = false := Row.frozen hr2 6
              clear hr2 hr5
              go_wp2
              exact hbad.out W20 400 _ (H3.out.2.1.below HBW.out H3.out.2.1.lt) (H3.out.1.trans (HBW.out.mono H3.out.1.size)) rfl rfl rfl HOb.out
            | true =>
              go_wp2_with fail
              refine (HA4.out W20).mono ?_
              rintro e W21 ⟨rfl, hD⟩
              have H21 := Lib.hid (H20.out.below hD.below)
              clear hD k0 k1
              have k0 : W21.cell? ⟨K, 0, none⟩ = some (S n) := cell_of_row _ _ 0 _ 47 (0, 0) H21.out.2
              have k1 : W21.cell? ⟨K, 1, none⟩ = some (S u) := cell_of_row _ _ 1 _ 47 (0, 0) H21.out.2
              cases a4 with
              | false =>
                go_wp2_with fail
                refine (HA5.out W21).mono ?_
                rintro e W22 ⟨rfl, hD⟩
                have H22 := Lib.hid (H21.out.below hD.below)
                clear hD k0 k1
                have k0 : W22.cell? ⟨K, 0, none⟩ = some (S n) := cell_of_row _ _ 0 _ 47 (0, 0) H22.out.2
                have k1 : W22.cell? ⟨K, 1, none⟩ = some (S u) := cell_of_row _ _ 1 _ 47 (0, 0) H22.out.2
                cases a5 with
                | false =>
                  have hl : lineH ⟨hfs, hh, hc, ln, tx, hcl⟩ l = some ⟨hfs ++ [(n, u)], hh, (hc + 1), ln, tx, hcl⟩ := by rw [HLX.out]; simp
                  have HLN2 : Hid (linesH ⟨[], 0, 0, none, [], cl0⟩ lr = linesH ⟨hfs ++ [(n, u)], hh, (hc + 1), ln, tx, hcl⟩ (ls.drop (j + 1))) := Lib.hid (by
                    have h2 := HLI.out
                    rw [hl] at h2
                    exact h2)
                  have HL5 : Hid (∀ k', ln = some k' → k' ≤ 5000) := Lib.hid (HLN5.out)
                  clear hl
                  go_wp2
                  exact ⟨⟨j + 1, ⟨hfs ++ [(n, u)], hh, (hc + 1), ln, tx, hcl⟩, by omega, by omega, by go_num, by first | rfl | go_num, by first | rfl | go_num, rfl, rfl, by dsimp only; omega, by dsimp only; omega, by rw [List.length_append, List.length_singleton]; omega, HL5.out, HLN2.out, H22.out.1⟩, by simp [intOf]; omega⟩
                | true =>
                  go_wp2_with fail
                  refine (HA6.out W22).mono ?_
                  rintro e W23 ⟨rfl, hD⟩
                  have H23 := Lib.hid (H22.out.below hD)
                  clear hD k0 k1
                  have k0 : W23.cell? ⟨K, 0, none⟩ = some (S n) := cell_of_row _ _ 0 _ 47 (0, 0) H23.out.2
                  have k1 : W23.cell? ⟨K, 1, none⟩ = some (S u) := cell_of_row _ _ 1 _ 47 (0, 0) H23.out.2
                  cases a6 with
                  | false =>
                    have hl : lineH ⟨hfs, hh, hc, ln, tx, hcl⟩ l = some ⟨hfs ++ [(n, u)], hh, (hc + 1), ln, tx, hcl⟩ := by rw [HLX.out]; simp
                    have HLN2 : Hid (linesH ⟨[], 0, 0, none, [], cl0⟩ lr = linesH ⟨hfs ++ [(n, u)], hh, (hc + 1), ln, tx, hcl⟩ (ls.drop (j + 1))) := Lib.hid (by
                      have h2 := HLI.out
                      rw [hl] at h2
                      exact h2)
                    have HL5 : Hid (∀ k', ln = some k' → k' ≤ 5000) := Lib.hid (HLN5.out)
                    clear hl
                    go_wp2
                    exact ⟨⟨j + 1, ⟨hfs ++ [(n, u)], hh, (hc + 1), ln, tx, hcl⟩, by omega, by omega, by go_num, by first | rfl | go_num, by first | rfl | go_num, rfl, rfl, by dsimp only; omega, by dsimp only; omega, by rw [List.length_append, List.length_singleton]; omega, HL5.out, HLN2.out, H23.out.1⟩, by simp [intOf]; omega⟩
                  | true =>
                    have hl : lineH ⟨hfs, hh, hc, ln, tx, hcl⟩ l = some ⟨hfs ++ [(n, u)], hh, (hc + 1), ln, tx, true⟩ := by rw [HLX.out]; simp
                    have HLN2 : Hid (linesH ⟨[], 0, 0, none, [], cl0⟩ lr = linesH ⟨hfs ++ [(n, u)], hh, (hc + 1), ln, tx, true⟩ (ls.drop (j + 1))) := Lib.hid (by
                      have h2 := HLI.out
                      rw [hl] at h2
                      exact h2)
                    have HL5 : Hid (∀ k', ln = some k' → k' ≤ 5000) := Lib.hid (HLN5.out)
                    clear hl
                    obtain ⟨V', hrV', _⟩ := H23.out.1.ex
                    have c6 : W23.cell? ⟨b14, 6, none⟩ = some (.bool hcl) := cell_of_row _ _ 6 _ 27 (0, 0) hrV'
                    have f6 : W23.frozen? ⟨b14, 6, none⟩ = false := Row.frozen hrV' 6
                    have HCL := Lib.hid (H23.out.1.close (by omega) H6.out.2)
                    clear hrV'
                    go_wp2
                    exact ⟨⟨j + 1, ⟨hfs ++ [(n, u)], hh, (hc + 1), ln, tx, true⟩, by omega, by omega, by go_num, by first | rfl | go_num, by first | rfl | go_num, rfl, rfl, by dsimp only; omega, by dsimp only; omega, by rw [List.length_append, List.length_singleton]; omega, HL5.out, HLN2.out, HCL.out⟩, by simp [intOf]; omega⟩
              | true =>
                go_wp2_with fail
                refine (HNM.out W21).mono ?_
                rintro e w1 ⟨rfl, hw1⟩
                obtain rfl := hw1.symm
                clear hw1
                cases nu with
                | none =>
                  rw [show optV none = .int .i64 (-1) from rfl]
                  have hln : lineH ⟨hfs, hh, hc, ln, tx, hcl⟩ l = none := by rw [HLX.out]; simp
                  have HOb : Hid (O = .bad 400) := Lib.hid (by
                    have h2 := HLI.out
                    rw [hln] at h2
                    rw [HOG.out, h2])
                  have HBW : Hid (Below W3.heap.size W3 W21) := Lib.hid H21.out.1.bel
                  clear hln
                  have hr2 := H3.out.2.1.below HBW.out H3.out.2.1.lt
                  have hr5 := H3.out.2.2.below HBW.out H3.out.2.2.lt
                  have c0 : W21.cell? ⟨b5, 0, none⟩ = some (.string ⟨#[]⟩) := cell_of_row W21 _ 0 _ 27 (0, 0) hr5
                  have c1 : W21.cell? ⟨b5, 1, none⟩ = some (.string ⟨#[]⟩) := cell_of_row W21 _ 1 _ 27 (0, 0) hr5
                  have c2 : W21.cell? ⟨b5, 2, none⟩ = some (.string ⟨#[]⟩) := cell_of_row W21 _ 2 _ 27 (0, 0) hr5
                  have c3 : W21.cell? ⟨b5, 3, none⟩ = some (.int .i64 0) := cell_of_row W21 _ 3 _ 27 (0, 0) hr5
                  have c4 : W21.cell? ⟨b5, 4, none⟩ = some (.slice none 0 0) := cell_of_row W21 _ 4 _ 27 (0, 0) hr5
                  have c5 : W21.cell? ⟨b5, 5, none⟩ = some (.string ⟨#[]⟩) := cell_of_row W21 _ 5 _ 27 (0, 0) hr5
                  have c6 : W21.cell? ⟨b5, 6, none⟩ = some (.bool false) := cell_of_row W21 _ 6 _ 27 (0, 0) hr5
                  have d0 : W21.cell? ⟨b2, 0, none⟩ = some (.string ⟨#[]⟩) := cell_of_row W21 _ 0 _ 27 (0, 0) hr2
                  have df0 : W21.frozen? ⟨b2, 0, none⟩ = false := Row.frozen hr2 0
                  have d1 : W21.cell? ⟨b2, 1, none⟩ = some (.string ⟨#[]⟩) := cell_of_row W21 _ 1 _ 27 (0, 0) hr2
                  have df1 : W21.frozen? ⟨b2, 1, none⟩ = false := Row.frozen hr2 1
                  have d2 : W21.cell? ⟨b2, 2, none⟩ = some (.string ⟨#[]⟩) := cell_of_row W21 _ 2 _ 27 (0, 0) hr2
                  have df2 : W21.frozen? ⟨b2, 2, none⟩ = false := Row.frozen hr2 2
                  have d3 : W21.cell? ⟨b2, 3, none⟩ = some (.int .i64 0) := cell_of_row W21 _ 3 _ 27 (0, 0) hr2
                  have df3 : W21.frozen? ⟨b2, 3, none⟩ = false := Row.frozen hr2 3
                  have d4 : W21.cell? ⟨b2, 4, none⟩ = some (.slice none 0 0) := cell_of_row W21 _ 4 _ 27 (0, 0) hr2
                  have df4 : W21.frozen? ⟨b2, 4, none⟩ = false := Row.frozen hr2 4
                  have d5 : W21.cell? ⟨b2, 5, none⟩ = some (.string ⟨#[]⟩) := cell_of_row W21 _ 5 _ 27 (0, 0) hr2
                  have df5 : W21.frozen? ⟨b2, 5, none⟩ = false := Row.frozen hr2 5
                  have d6 : W21.cell? ⟨b2, 6, none⟩ = some (.bool false) := cell_of_row W21 _ 6 _ 27 (0, 0) hr2
                  have df6 : W21.frozen? ⟨b2, 6, none⟩ = false := Row.frozen hr2 6
                  clear hr2 hr5
                  go_wp2
                  exact hbad.out W21 400 _ (H3.out.2.1.below HBW.out H3.out.2.1.lt) (H3.out.1.trans (HBW.out.mono H3.out.1.size)) rfl rfl rfl HOb.out
                | some k =>
                  have hk5 := HNU.out k rfl
                  have gk : decide ((k : Int) < 0) = false := decide_eq_false (by omega)
                  rw [show optV (some k) = .int .i64 (k : Int) from rfl]
                  cases ln with
                  | none =>
                    rw [show optV none = .int .i64 (-1) from rfl]
                    go_wp2_with fail
                    refine (HA5.out W21).mono ?_
                    rintro e W24 ⟨rfl, hD⟩
                    have H24 := Lib.hid (H21.out.below hD.below)
                    clear hD k0 k1
                    have k0 : W24.cell? ⟨K, 0, none⟩ = some (S n) := cell_of_row _ _ 0 _ 47 (0, 0) H24.out.2
                    have k1 : W24.cell? ⟨K, 1, none⟩ = some (S u) := cell_of_row _ _ 1 _ 47 (0, 0) H24.out.2
                    cases a5 with
                    | false =>
                      have hl : lineH ⟨hfs, hh, hc, none, tx, hcl⟩ l = some ⟨hfs ++ [(n, u)], hh, (hc + 1), some k, u, hcl⟩ := by rw [HLX.out]; simp
                      have HLN2 : Hid (linesH ⟨[], 0, 0, none, [], cl0⟩ lr = linesH ⟨hfs ++ [(n, u)], hh, (hc + 1), some k, u, hcl⟩ (ls.drop (j + 1))) := Lib.hid (by
                        have h2 := HLI.out
                        rw [hl] at h2
                        exact h2)
                      have HL5 : Hid (∀ k', some k = some k' → k' ≤ 5000) := Lib.hid ((fun k' hk => by cases hk; exact hk5))
                      clear hl
                      go_wp2
                      exact ⟨⟨j + 1, ⟨hfs ++ [(n, u)], hh, (hc + 1), some k, u, hcl⟩, by omega, by omega, by go_num, by first | rfl | go_num, by first | rfl | go_num, rfl, rfl, by dsimp only; omega, by dsimp only; omega, by rw [List.length_append, List.length_singleton]; omega, HL5.out, HLN2.out, H24.out.1⟩, by simp [intOf]; omega⟩
                    | true =>
                      go_wp2_with fail
                      refine (HA6.out W24).mono ?_
                      rintro e W25 ⟨rfl, hD⟩
                      have H25 := Lib.hid (H24.out.below hD)
                      clear hD k0 k1
                      have k0 : W25.cell? ⟨K, 0, none⟩ = some (S n) := cell_of_row _ _ 0 _ 47 (0, 0) H25.out.2
                      have k1 : W25.cell? ⟨K, 1, none⟩ = some (S u) := cell_of_row _ _ 1 _ 47 (0, 0) H25.out.2
                      cases a6 with
                      | false =>
                        have hl : lineH ⟨hfs, hh, hc, none, tx, hcl⟩ l = some ⟨hfs ++ [(n, u)], hh, (hc + 1), some k, u, hcl⟩ := by rw [HLX.out]; simp
                        have HLN2 : Hid (linesH ⟨[], 0, 0, none, [], cl0⟩ lr = linesH ⟨hfs ++ [(n, u)], hh, (hc + 1), some k, u, hcl⟩ (ls.drop (j + 1))) := Lib.hid (by
                          have h2 := HLI.out
                          rw [hl] at h2
                          exact h2)
                        have HL5 : Hid (∀ k', some k = some k' → k' ≤ 5000) := Lib.hid ((fun k' hk => by cases hk; exact hk5))
                        clear hl
                        go_wp2
                        exact ⟨⟨j + 1, ⟨hfs ++ [(n, u)], hh, (hc + 1), some k, u, hcl⟩, by omega, by omega, by go_num, by first | rfl | go_num, by first | rfl | go_num, rfl, rfl, by dsimp only; omega, by dsimp only; omega, by rw [List.length_append, List.length_singleton]; omega, HL5.out, HLN2.out, H25.out.1⟩, by simp [intOf]; omega⟩
                      | true =>
                        have hl : lineH ⟨hfs, hh, hc, none, tx, hcl⟩ l = some ⟨hfs ++ [(n, u)], hh, (hc + 1), some k, u, true⟩ := by rw [HLX.out]; simp
                        have HLN2 : Hid (linesH ⟨[], 0, 0, none, [], cl0⟩ lr = linesH ⟨hfs ++ [(n, u)], hh, (hc + 1), some k, u, true⟩ (ls.drop (j + 1))) := Lib.hid (by
                          have h2 := HLI.out
                          rw [hl] at h2
                          exact h2)
                        have HL5 : Hid (∀ k', some k = some k' → k' ≤ 5000) := Lib.hid ((fun k' hk => by cases hk; exact hk5))
                        clear hl
                        obtain ⟨V', hrV', _⟩ := H25.out.1.ex
                        have c6 : W25.cell? ⟨b14, 6, none⟩ = some (.bool hcl) := cell_of_row _ _ 6 _ 27 (0, 0) hrV'
                        have f6 : W25.frozen? ⟨b14, 6, none⟩ = false := Row.frozen hrV' 6
                        have HCL := Lib.hid (H25.out.1.close (by omega) H6.out.2)
                        clear hrV'
                        go_wp2
                        exact ⟨⟨j + 1, ⟨hfs ++ [(n, u)], hh, (hc + 1), some k, u, true⟩, by omega, by omega, by go_num, by first | rfl | go_num, by first | rfl | go_num, rfl, rfl, by dsimp only; omega, by dsimp only; omega, by rw [List.length_append, List.length_singleton]; omega, HL5.out, HLN2.out, HCL.out⟩, by simp [intOf]; omega⟩
                  | some ko =>
                    have hk05 := HLN5.out ko rfl
                    have gk0 : decide ((0 : Int) ≤ (ko : Int)) = true := decide_eq_true (by omega)
                    rw [show optV (some ko) = .int .i64 (ko : Int) from rfl]
                    have qn : binOp .neq 9 (S u) (S tx) = pure (.bool (u != tx)) := neql_S 9 u tx
                    have qg := nguard_S 9
                    by_cases hut : u = tx
                    · rw [show (u != tx) = false by rw [hut]; simp] at qn
                      have HUT := Lib.hid hut
                      clear hut
                      go_wp2_with fail
                      refine (HA5.out W21).mono ?_
                      rintro e W26 ⟨rfl, hD⟩
                      have H26 := Lib.hid (H21.out.below hD.below)
                      clear hD k0 k1
                      have k0 : W26.cell? ⟨K, 0, none⟩ = some (S n) := cell_of_row _ _ 0 _ 47 (0, 0) H26.out.2
                      have k1 : W26.cell? ⟨K, 1, none⟩ = some (S u) := cell_of_row _ _ 1 _ 47 (0, 0) H26.out.2
                      cases a5 with
                      | false =>
                        have hl : lineH ⟨hfs, hh, hc, (some ko), tx, hcl⟩ l = some ⟨hfs ++ [(n, u)], hh, (hc + 1), some k, u, hcl⟩ := by rw [HLX.out]; simp [HUT.out]
                        have HLN2 : Hid (linesH ⟨[], 0, 0, none, [], cl0⟩ lr = linesH ⟨hfs ++ [(n, u)], hh, (hc + 1), some k, u, hcl⟩ (ls.drop (j + 1))) := Lib.hid (by
                          have h2 := HLI.out
                          rw [hl] at h2
                          exact h2)
                        have HL5 : Hid (∀ k', some k = some k' → k' ≤ 5000) := Lib.hid ((fun k' hk => by cases hk; exact hk5))
                        clear hl
                        go_wp2
                        exact ⟨⟨j + 1, ⟨hfs ++ [(n, u)], hh, (hc + 1), some k, u, hcl⟩, by omega, by omega, by go_num, by first | rfl | go_num, by first | rfl | go_num, rfl, rfl, by dsimp only; omega, by dsimp only; omega, by rw [List.length_append, List.length_singleton]; omega, HL5.out, HLN2.out, H26.out.1⟩, by simp [intOf]; omega⟩
                      | true =>
                        go_wp2_with fail
                        refine (HA6.out W26).mono ?_
                        rintro e W27 ⟨rfl, hD⟩
                        have H27 := Lib.hid (H26.out.below hD)
                        clear hD k0 k1
                        have k0 : W27.cell? ⟨K, 0, none⟩ = some (S n) := cell_of_row _ _ 0 _ 47 (0, 0) H27.out.2
                        have k1 : W27.cell? ⟨K, 1, none⟩ = some (S u) := cell_of_row _ _ 1 _ 47 (0, 0) H27.out.2
                        cases a6 with
                        | false =>
                          have hl : lineH ⟨hfs, hh, hc, (some ko), tx, hcl⟩ l = some ⟨hfs ++ [(n, u)], hh, (hc + 1), some k, u, hcl⟩ := by rw [HLX.out]; simp [HUT.out]
                          have HLN2 : Hid (linesH ⟨[], 0, 0, none, [], cl0⟩ lr = linesH ⟨hfs ++ [(n, u)], hh, (hc + 1), some k, u, hcl⟩ (ls.drop (j + 1))) := Lib.hid (by
                            have h2 := HLI.out
                            rw [hl] at h2
                            exact h2)
                          have HL5 : Hid (∀ k', some k = some k' → k' ≤ 5000) := Lib.hid ((fun k' hk => by cases hk; exact hk5))
                          clear hl
                          go_wp2
                          exact ⟨⟨j + 1, ⟨hfs ++ [(n, u)], hh, (hc + 1), some k, u, hcl⟩, by omega, by omega, by go_num, by first | rfl | go_num, by first | rfl | go_num, rfl, rfl, by dsimp only; omega, by dsimp only; omega, by rw [List.length_append, List.length_singleton]; omega, HL5.out, HLN2.out, H27.out.1⟩, by simp [intOf]; omega⟩
                        | true =>
                          have hl : lineH ⟨hfs, hh, hc, (some ko), tx, hcl⟩ l = some ⟨hfs ++ [(n, u)], hh, (hc + 1), some k, u, true⟩ := by rw [HLX.out]; simp [HUT.out]
                          have HLN2 : Hid (linesH ⟨[], 0, 0, none, [], cl0⟩ lr = linesH ⟨hfs ++ [(n, u)], hh, (hc + 1), some k, u, true⟩ (ls.drop (j + 1))) := Lib.hid (by
                            have h2 := HLI.out
                            rw [hl] at h2
                            exact h2)
                          have HL5 : Hid (∀ k', some k = some k' → k' ≤ 5000) := Lib.hid ((fun k' hk => by cases hk; exact hk5))
                          clear hl
                          obtain ⟨V', hrV', _⟩ := H27.out.1.ex
                          have c6 : W27.cell? ⟨b14, 6, none⟩ = some (.bool hcl) := cell_of_row _ _ 6 _ 27 (0, 0) hrV'
                          have f6 : W27.frozen? ⟨b14, 6, none⟩ = false := Row.frozen hrV' 6
                          have HCL := Lib.hid (H27.out.1.close (by omega) H6.out.2)
                          clear hrV'
                          go_wp2
                          exact ⟨⟨j + 1, ⟨hfs ++ [(n, u)], hh, (hc + 1), some k, u, true⟩, by omega, by omega, by go_num, by first | rfl | go_num, by first | rfl | go_num, rfl, rfl, by dsimp only; omega, by dsimp only; omega, by rw [List.length_append, List.length_singleton]; omega, HL5.out, HLN2.out, HCL.out⟩, by simp [intOf]; omega⟩
                    · rw [show (u != tx) = true from bne_iff_ne.2 hut] at qn
                      have HUT := Lib.hid hut
                      clear hut
                      have hln : lineH ⟨hfs, hh, hc, (some ko), tx, hcl⟩ l = none := by rw [HLX.out]; simp [HUT.out]
                      have HOb : Hid (O = .bad 400) := Lib.hid (by
                        have h2 := HLI.out
                        rw [hln] at h2
                        rw [HOG.out, h2])
                      have HBW : Hid (Below W3.heap.size W3 W21) := Lib.hid H21.out.1.bel
                      clear hln
                      have hr2 := H3.out.2.1.below HBW.out H3.out.2.1.lt
                      have hr5 := H3.out.2.2.below HBW.out H3.out.2.2.lt
                      have c0 : W21.cell? ⟨b5, 0, none⟩ = some (.string ⟨#[]⟩) := cell_of_row W21 _ 0 _ 27 (0, 0) hr5
                      have c1 : W21.cell? ⟨b5, 1, none⟩ = some (.string ⟨#[]⟩) := cell_of_row W21 _ 1 _ 27 (0, 0) hr5
                      have c2 : W21.cell? ⟨b5, 2, none⟩ = some (.string ⟨#[]⟩) := cell_of_row W21 _ 2 _ 27 (0, 0) hr5
                      have c3 : W21.cell? ⟨b5, 3, none⟩ = some (.int .i64 0) := cell_of_row W21 _ 3 _ 27 (0, 0) hr5
                      have c4 : W21.cell? ⟨b5, 4, none⟩ = some (.slice none 0 0) := cell_of_row W21 _ 4 _ 27 (0, 0) hr5
                      have c5 : W21.cell? ⟨b5, 5, none⟩ = some (.string ⟨#[]⟩) := cell_of_row W21 _ 5 _ 27 (0, 0) hr5
                      have c6 : W21.cell? ⟨b5, 6, none⟩ = some (.bool false) := cell_of_row W21 _ 6 _ 27 (0, 0) hr5
                      have d0 : W21.cell? ⟨b2, 0, none⟩ = some (.string ⟨#[]⟩) := cell_of_row W21 _ 0 _ 27 (0, 0) hr2
                      have df0 : W21.frozen? ⟨b2, 0, none⟩ = false := Row.frozen hr2 0
                      have d1 : W21.cell? ⟨b2, 1, none⟩ = some (.string ⟨#[]⟩) := cell_of_row W21 _ 1 _ 27 (0, 0) hr2
                      have df1 : W21.frozen? ⟨b2, 1, none⟩ = false := Row.frozen hr2 1
                      have d2 : W21.cell? ⟨b2, 2, none⟩ = some (.string ⟨#[]⟩) := cell_of_row W21 _ 2 _ 27 (0, 0) hr2
                      have df2 : W21.frozen? ⟨b2, 2, none⟩ = false := Row.frozen hr2 2
                      have d3 : W21.cell? ⟨b2, 3, none⟩ = some (.int .i64 0) := cell_of_row W21 _ 3 _ 27 (0, 0) hr2
                      have df3 : W21.frozen? ⟨b2, 3, none⟩ = false := Row.frozen hr2 3
                      have d4 : W21.cell? ⟨b2, 4, none⟩ = some (.slice none 0 0) := cell_of_row W21 _ 4 _ 27 (0, 0) hr2
                      have df4 : W21.frozen? ⟨b2, 4, none⟩ = false := Row.frozen hr2 4
                      have d5 : W21.cell? ⟨b2, 5, none⟩ = some (.string ⟨#[]⟩) := cell_of_row W21 _ 5 _ 27 (0, 0) hr2
                      have df5 : W21.frozen? ⟨b2, 5, none⟩ = false := Row.frozen hr2 5
                      have d6 : W21.cell? ⟨b2, 6, none⟩ = some (.bool false) := cell_of_row W21 _ 6 _ 27 (0, 0) hr2
                      have df6 : W21.frozen? ⟨b2, 6, none⟩ = false := Row.frozen hr2 6
                      clear hr2 hr5
                      go_wp2
                      exact hbad.out W21 400 _ (H3.out.2.1.below HBW.out H3.out.2.1.lt) (H3.out.1.trans (HBW.out.mono H3.out.1.size)) rfl rfl rfl HOb.out
        | true =>
          have hwh : IntKind.i64.wrap ((hh : Int) + 1) = (hh : Int) + 1 := by rw [IntKind.wrap_i64]; omega
          go_wp2_with fail
          refine (HA2.out W11).mono ?_
          rintro e W28 ⟨rfl, hD⟩
          have H28 := Lib.hid (H11.out.below hD.below)
          clear hD k0 k1
          have k0 : W28.cell? ⟨K, 0, none⟩ = some (S n) := cell_of_row _ _ 0 _ 47 (0, 0) H28.out.2
          have k1 : W28.cell? ⟨K, 1, none⟩ = some (S u) := cell_of_row _ _ 1 _ 47 (0, 0) H28.out.2
          cases a2 with
          | false =>
            go_wp2_with fail
            refine (HA4.out W28).mono ?_
            rintro e W29 ⟨rfl, hD⟩
            have H29 := Lib.hid (H28.out.below hD.below)
            clear hD k0 k1
            have k0 : W29.cell? ⟨K, 0, none⟩ = some (S n) := cell_of_row _ _ 0 _ 47 (0, 0) H29.out.2
            have k1 : W29.cell? ⟨K, 1, none⟩ = some (S u) := cell_of_row _ _ 1 _ 47 (0, 0) H29.out.2
            cases a4 with
            | false =>
              go_wp2_with fail
              refine (HA5.out W29).mono ?_
              rintro e W30 ⟨rfl, hD⟩
              have H30 := Lib.hid (H29.out.below hD.below)
              clear hD k0 k1
              have k0 : W30.cell? ⟨K, 0, none⟩ = some (S n) := cell_of_row _ _ 0 _ 47 (0, 0) H30.out.2
              have k1 : W30.cell? ⟨K, 1, none⟩ = some (S u) := cell_of_row _ _ 1 _ 47 (0, 0) H30.out.2
              cases a5 with
              | false =>
                have hl : lineH ⟨hfs, hh, hc, ln, tx, hcl⟩ l = some ⟨hfs ++ [(n, u)], (hh + 1), hc, ln, tx, hcl⟩ := by rw [HLX.out]; simp
                have HLN2 : Hid (linesH ⟨[], 0, 0, none, [], cl0⟩ lr = linesH ⟨hfs ++ [(n, u)], (hh + 1), hc, ln, tx, hcl⟩ (ls.drop (j + 1))) := Lib.hid (by
                  have h2 := HLI.out
                  rw [hl] at h2
                  exact h2)
                have HL5 : Hid (∀ k', ln = some k' → k' ≤ 5000) := Lib.hid (HLN5.out)
                clear hl
                go_wp2
                exact ⟨⟨j + 1, ⟨hfs ++ [(n, u)], (hh + 1), hc, ln, tx, hcl⟩, by omega, by omega, by go_num, by first | rfl | go_num, by first | rfl | go_num, rfl, rfl, by dsimp only; omega, by dsimp only; omega, by rw [List.length_append, List.length_singleton]; omega, HL5.out, HLN2.out, H30.out.1⟩, by simp [intOf]; omega⟩
              | true =>
                go_wp2_with fail
                refine (HA6.out W30).mono ?_
                rintro e W31 ⟨rfl, hD⟩
                have H31 := Lib.hid (H30.out.below hD)
                clear hD k0 k1
                have k0 : W31.cell? ⟨K, 0, none⟩ = some (S n) := cell_of_row _ _ 0 _ 47 (0, 0) H31.out.2
                have k1 : W31.cell? ⟨K, 1, none⟩ = some (S u) := cell_of_row _ _ 1 _ 47 (0, 0) H31.out.2
                cases a6 with
                | false =>
                  have hl : lineH ⟨hfs, hh, hc, ln, tx, hcl⟩ l = some ⟨hfs ++ [(n, u)], (hh + 1), hc, ln, tx, hcl⟩ := by rw [HLX.out]; simp
                  have HLN2 : Hid (linesH ⟨[], 0, 0, none, [], cl0⟩ lr = linesH ⟨hfs ++ [(n, u)], (hh + 1), hc, ln, tx, hcl⟩ (ls.drop (j + 1))) := Lib.hid (by
                    have h2 := HLI.out
                    rw [hl] at h2
                    exact h2)
                  have HL5 : Hid (∀ k', ln = some k' → k' ≤ 5000) := Lib.hid (HLN5.out)
                  clear hl
                  go_wp2
                  exact ⟨⟨j + 1, ⟨hfs ++ [(n, u)], (hh + 1), hc, ln, tx, hcl⟩, by omega, by omega, by go_num, by first | rfl | go_num, by first | rfl | go_num, rfl, rfl, by dsimp only; omega, by dsimp only; omega, by rw [List.length_append, List.length_singleton]; omega, HL5.out, HLN2.out, H31.out.1⟩, by simp [intOf]; omega⟩
                | true =>
                  have hl : lineH ⟨hfs, hh, hc, ln, tx, hcl⟩ l = some ⟨hfs ++ [(n, u)], (hh + 1), hc, ln, tx, true⟩ := by rw [HLX.out]; simp
                  have HLN2 : Hid (linesH ⟨[], 0, 0, none, [], cl0⟩ lr = linesH ⟨hfs ++ [(n, u)], (hh + 1), hc, ln, tx, true⟩ (ls.drop (j + 1))) := Lib.hid (by
                    have h2 := HLI.out
                    rw [hl] at h2
                    exact h2)
                  have HL5 : Hid (∀ k', ln = some k' → k' ≤ 5000) := Lib.hid (HLN5.out)
                  clear hl
                  obtain ⟨V', hrV', _⟩ := H31.out.1.ex
                  have c6 : W31.cell? ⟨b14, 6, none⟩ = some (.bool hcl) := cell_of_row _ _ 6 _ 27 (0, 0) hrV'
                  have f6 : W31.frozen? ⟨b14, 6, none⟩ = false := Row.frozen hrV' 6
                  have HCL := Lib.hid (H31.out.1.close (by omega) H6.out.2)
                  clear hrV'
                  go_wp2
                  exact ⟨⟨j + 1, ⟨hfs ++ [(n, u)], (hh + 1), hc, ln, tx, true⟩, by omega, by omega, by go_num, by first | rfl | go_num, by first | rfl | go_num, rfl, rfl, by dsimp only; omega, by dsimp only; omega, by rw [List.length_append, List.length_singleton]; omega, HL5.out, HLN2.out, HCL.out⟩, by simp [intOf]; omega⟩
            | true =>
              go_wp2_with fail
              refine (HNM.out W29).mono ?_
              rintro e w1 ⟨rfl, hw1⟩
              obtain rfl := hw1.symm
              clear hw1
              cases nu with
              | none =>
                rw [show optV none = .int .i64 (-1) from rfl]
                have hln : lineH ⟨hfs, hh, hc, ln, tx, hcl⟩ l = none := by rw [HLX.out]; simp
                have HOb : Hid (O = .bad 400) := Lib.hid (by
                  have h2 := HLI.out
                  rw [hln] at h2
                  rw [HOG.out, h2])
                have HBW : Hid (Below W3.heap.size W3 W29) := Lib.hid H29.out.1.bel
                clear hln
                have hr2 := H3.out.2.1.below HBW.out H3.out.2.1.lt
                have hr5 := H3.out.2.2.below HBW.out H3.out.2.2.lt
                have c0 : W29.cell? ⟨b5, 0, none⟩ = some (.string ⟨#[]⟩) := cell_of_row W29 _ 0 _ 27 (0, 0) hr5
                have c1 : W29.cell? ⟨b5, 1, none⟩ = some (.string ⟨#[]⟩) := cell_of_row W29 _ 1 _ 27 (0, 0) hr5
                have c2 : W29.cell? ⟨b5, 2, none⟩ = some (.string ⟨#[]⟩) := cell_of_row W29 _ 2 _ 27 (0, 0) hr5
                have c3 : W29.cell? ⟨b5, 3, none⟩ = some (.int .i64 0) := cell_of_row W29 _ 3 _ 27 (0, 0) hr5
                have c4 : W29.cell? ⟨b5, 4, none⟩ = some (.slice none 0 0) := cell_of_row W29 _ 4 _ 27 (0, 0) hr5
                have c5 : W29.cell? ⟨b5, 5, none⟩ = some (.string ⟨#[]⟩) := cell_of_row W29 _ 5 _ 27 (0, 0) hr5
                have c6 : W29.cell? ⟨b5, 6, none⟩ = some (.bool false) := cell_of_row W29 _ 6 _ 27 (0, 0) hr5
                have d0 : W29.cell? ⟨b2, 0, none⟩ = some (.string ⟨#[]⟩) := cell_of_row W29 _ 0 _ 27 (0, 0) hr2
                have df0 : W29.frozen? ⟨b2, 0, none⟩ = false := Row.frozen hr2 0
                have d1 : W29.cell? ⟨b2, 1, none⟩ = some (.string ⟨#[]⟩) := cell_of_row W29 _ 1 _ 27 (0, 0) hr2
                have df1 : W29.frozen? ⟨b2, 1, none⟩ = false := Row.frozen hr2 1
                have d2 : W29.cell? ⟨b2, 2, none⟩ = some (.string ⟨#[]⟩) := cell_of_row W29 _ 2 _ 27 (0, 0) hr2
                have df2 : W29.frozen? ⟨b2, 2, none⟩ = false := Row.frozen hr2 2
                have d3 : W29.cell? ⟨b2, 3, none⟩ = some (.int .i64 0) := cell_of_row W29 _ 3 _ 27 (0, 0) hr2
                have df3 : W29.frozen? ⟨b2, 3, none⟩ = false := Row.frozen hr2 3
                have d4 : W29.cell? ⟨b2, 4, none⟩ = some (.slice none 0 0) := cell_of_row W29 _ 4 _ 27 (0, 0) hr2
                have df4 : W29.frozen? ⟨b2, 4, none⟩ = false := Row.frozen hr2 4
                have d5 : W29.cell? ⟨b2, 5, none⟩ = some (.string ⟨#[]⟩) := cell_of_row W29 _ 5 _ 27 (0, 0) hr2
                have df5 : W29.frozen? ⟨b2, 5, none⟩ = false := Row.frozen hr2 5
                have d6 : W29.cell? ⟨b2, 6, none⟩ = some (.bool false) := cell_of_row W29 _ 6 _ 27 (0, 0) hr2
                have df6 : W29.frozen? ⟨b2, 6, none⟩ = false := Row.frozen hr2 6
                clear hr2 hr5
                go_wp2
                exact hbad.out W29 400 _ (H3.out.2.1.below HBW.out H3.out.2.1.lt) (H3.out.1.trans (HBW.out.mono H3.out.1.size)) rfl rfl rfl HOb.out
              | some k =>
                have hk5 := HNU.out k rfl
                have gk : decide ((k : Int) < 0) = false := decide_eq_false (by omega)
                rw [show optV (some k) = .int .i64 (k : Int) from rfl]
                cases ln with
                | none =>
                  rw [show optV none = .int .i64 (-1) from rfl]
                  go_wp2_with fail
                  refine (HA5.out W29).mono ?_
                  rintro e W32 ⟨rfl, hD⟩
                  have H32 := Lib.hid (H29.out.below hD.below)
                  clear hD k0 k1
                  have k0 : W32.cell? ⟨K, 0, none⟩ = some (S n) := cell_of_row _ _ 0 _ 47 (0, 0) H32.out.2
                  have k1 : W32.cell? ⟨K, 1, none⟩ = some (S u) := cell_of_row _ _ 1 _ 47 (0, 0) H32.out.2
                  cases a5 with
                  | false =>
                    have hl : lineH ⟨hfs, hh, hc, none, tx, hcl⟩ l = some ⟨hfs ++ [(n, u)], (hh + 1), hc, some k, u, hcl⟩ := by rw [HLX.out]; simp
                    have HLN2 : Hid (linesH ⟨[], 0, 0, none, [], cl0⟩ lr = linesH ⟨hfs ++ [(n, u)], (hh + 1), hc, some k, u, hcl⟩ (ls.drop (j + 1))) := Lib.hid (by
                      have h2 := HLI.out
                      rw [hl] at h2
                      exact h2)
                    have HL5 : Hid (∀ k', some k = some k' → k' ≤ 5000) := Lib.hid ((fun k' hk => by cases hk; exact hk5))
                    clear hl
                    go_wp2
                    exact ⟨⟨j + 1, ⟨hfs ++ [(n, u)], (hh + 1), hc, some k, u, hcl⟩, by omega, by omega, by go_num, by first | rfl | go_num, by first | rfl | go_num, rfl, rfl, by dsimp only; omega, by dsimp only; omega, by rw [List.length_append, List.length_singleton]; omega, HL5.out, HLN2.out, H32.out.1⟩, by simp [intOf]; omega⟩
                  | true =>
                    go_wp2_with fail
                    refine (HA6.out W32).mono ?_
                    rintro e W33 ⟨rfl, hD⟩
                    have H33 := Lib.hid (H32.out.below hD)
                    clear hD k0 k1
                    have k0 : W33.cell? ⟨K, 0, none⟩ = some (S n) := cell_of_row _ _ 0 _ 47 (0, 0) H33.out.2
                    have k1 : W33.cell? ⟨K, 1, none⟩ = some (S u) := cell_of_row _ _ 1 _ 47 (0, 0) H33.out.2
                    cases a6 with
                    | false =>
                      have hl : lineH ⟨hfs, hh, hc, none, tx, hcl⟩ l = some ⟨hfs ++ [(n, u)], (hh + 1), hc, some k, u, hcl⟩ := by rw [HLX.out]; simp
                      have HLN2 : Hid (linesH ⟨[], 0, 0, none, [], cl0⟩ lr = linesH ⟨hfs ++ [(n, u)], (hh + 1), hc, some k, u, hcl⟩ (ls.drop (j + 1))) := Lib.hid (by
                        have h2 := HLI.out
                        rw [hl] at h2
                        exact h2)
                      have HL5 : Hid (∀ k', some k = some k' → k' ≤ 5000) := Lib.hid ((fun k' hk => by cases hk; exact hk5))
                      clear hl
                      go_wp2
                      exact ⟨⟨j + 1, ⟨hfs ++ [(n, u)], (hh + 1), hc, some k, u, hcl⟩, by omega, by omega, by go_num, by first | rfl | go_num, by first | rfl | go_num, rfl, rfl, by dsimp only; omega, by dsimp only; omega, by rw [List.length_append, List.length_singleton]; omega, HL5.out, HLN2.out, H33.out.1⟩, by simp [intOf]; omega⟩
                    | true =>
                      have hl : lineH ⟨hfs, hh, hc, none, tx, hcl⟩ l = some ⟨hfs ++ [(n, u)], (hh + 1), hc, some k, u, true⟩ := by rw [HLX.out]; simp
                      have HLN2 : Hid (linesH ⟨[], 0, 0, none, [], cl0⟩ lr = linesH ⟨hfs ++ [(n, u)], (hh + 1), hc, some k, u, true⟩ (ls.drop (j + 1))) := Lib.hid (by
                        have h2 := HLI.out
                        rw [hl] at h2
                        exact h2)
                      have HL5 : Hid (∀ k', some k = some k' → k' ≤ 5000) := Lib.hid ((fun k' hk => by cases hk; exact hk5))
                      clear hl
                      obtain ⟨V', hrV', _⟩ := H33.out.1.ex
                      have c6 : W33.cell? ⟨b14, 6, none⟩ = some (.bool hcl) := cell_of_row _ _ 6 _ 27 (0, 0) hrV'
                      have f6 : W33.frozen? ⟨b14, 6, none⟩ = false := Row.frozen hrV' 6
                      have HCL := Lib.hid (H33.out.1.close (by omega) H6.out.2)
                      clear hrV'
                      go_wp2
                      exact ⟨⟨j + 1, ⟨hfs ++ [(n, u)], (hh + 1), hc, some k, u, true⟩, by omega, by omega, by go_num, by first | rfl | go_num, by first | rfl | go_num, rfl, rfl, by dsimp only; omega, by dsimp only; omega, by rw [List.length_append, List.length_singleton]; omega, HL5.out, HLN2.out, HCL.out⟩, by simp [intOf]; omega⟩
                | some ko =>
                  have hk05 := HLN5.out ko rfl
                  have gk0 : decide ((0 : Int) ≤ (ko : Int)) = true := decide_eq_true (by omega)
                  rw [show optV (some ko) = .int .i64 (ko : Int) from rfl]
                  have qn : binOp .neq 9 (S u) (S tx) = pure (.bool (u != tx)) := neql_S 9 u tx
                  have qg := nguard_S 9
                  by_cases hut : u = tx
                  · rw [show (u != tx) = false by rw [hut]; simp] at qn
                    have HUT := Lib.hid hut
                    clear hut
                    go_wp2_with fail
                    refine (HA5.out W29).mono ?_
                    rintro e W34 ⟨rfl, hD⟩
                    have H34 := Lib.hid (H29.out.below hD.below)
                    clear hD k0 k1
                    have k0 : W34.cell? ⟨K, 0, none⟩ = some (S n) := cell_of_row _ _ 0 _ 47 (0, 0) H34.out.2
                    have k1 : W34.cell? ⟨K, 1, none⟩ = some (S u) := cell_of_row _ _ 1 _ 47 (0, 0) H34.out.2
                    cases a5 with
                    | false =>
                      have hl : lineH ⟨hfs, hh, hc, (some ko), tx, hcl⟩ l = some ⟨hfs ++ [(n, u)], (hh + 1), hc, some k, u, hcl⟩ := by rw [HLX.out]; simp [HUT.out]
                      have HLN2 : Hid (linesH ⟨[], 0, 0, none, [], cl0⟩ lr = linesH ⟨hfs ++ [(n, u)], (hh + 1), hc, some k, u, hcl⟩ (ls.drop (j + 1))) := Lib.hid (by
                        have h2 := HLI.out
                        rw [hl] at h2
                        exact h2)
                      have HL5 : Hid (∀ k', some k = some k' → k' ≤ 5000) := Lib.hid ((fun k' hk => by cases hk; exact hk5))
                      clear hl
                      go_wp2
                      exact ⟨⟨j + 1, ⟨hfs ++ [(n, u)], (hh + 1), hc, some k, u, hcl⟩, by omega, by omega, by go_num, by first | rfl | go_num, by first | rfl | go_num, rfl, rfl, by dsimp only; omega, by dsimp only; omega, by rw [List.length_append, List.length_singleton]; omega, HL5.out, HLN2.out, H34.out.1⟩, by simp [intOf]; omega⟩
                    | true =>
                      go_wp2_with fail
                      refine (HA6.out W34).mono ?_
                      rintro e W35 ⟨rfl, hD⟩
                      have H35 := Lib.hid (H34.out.below hD)
                      clear hD k0 k1
                      have k0 : W35.cell? ⟨K, 0, none⟩ = some (S n) := cell_of_row _ _ 0 _ 47 (0, 0) H35.out.2
                      have k1 : W35.cell? ⟨K, 1, none⟩ = some (S u) := cell_of_row _ _ 1 _ 47 (0, 0) H35.out.2
                      cases a6 with
                      | false =>
                        have hl : lineH ⟨hfs, hh, hc, (some ko), tx, hcl⟩ l = some ⟨hfs ++ [(n, u)], (hh + 1), hc, some k, u, hcl⟩ := by rw [HLX.out]; simp [HUT.out]
                        have HLN2 : Hid (linesH ⟨[], 0, 0, none, [], cl0⟩ lr = linesH ⟨hfs ++ [(n, u)], (hh + 1), hc, some k, u, hcl⟩ (ls.drop (j + 1))) := Lib.hid (by
                          have h2 := HLI.out
                          rw [hl] at h2
                          exact h2)
                        have HL5 : Hid (∀ k', some k = some k' → k' ≤ 5000) := Lib.hid ((fun k' hk => by cases hk; exact hk5))
                        clear hl
                        go_wp2
                        exact ⟨⟨j + 1, ⟨hfs ++ [(n, u)], (hh + 1), hc, some k, u, hcl⟩, by omega, by omega, by go_num, by first | rfl | go_num, by first | rfl | go_num, rfl, rfl, by dsimp only; omega, by dsimp only; omega, by rw [List.length_append, List.length_singleton]; omega, HL5.out, HLN2.out, H35.out.1⟩, by simp [intOf]; omega⟩
                      | true =>
                        have hl : lineH ⟨hfs, hh, hc, (some ko), tx, hcl⟩ l = some ⟨hfs ++ [(n, u)], (hh + 1), hc, some k, u, true⟩ := by rw [HLX.out]; simp [HUT.out]
                        have HLN2 : Hid (linesH ⟨[], 0, 0, none, [], cl0⟩ lr = linesH ⟨hfs ++ [(n, u)], (hh + 1), hc, some k, u, true⟩ (ls.drop (j + 1))) := Lib.hid (by
                          have h2 := HLI.out
                          rw [hl] at h2
                          exact h2)
                        have HL5 : Hid (∀ k', some k = some k' → k' ≤ 5000) := Lib.hid ((fun k' hk => by cases hk; exact hk5))
                        clear hl
                        obtain ⟨V', hrV', _⟩ := H35.out.1.ex
                        have c6 : W35.cell? ⟨b14, 6, none⟩ = some (.bool hcl) := cell_of_row _ _ 6 _ 27 (0, 0) hrV'
                        have f6 : W35.frozen? ⟨b14, 6, none⟩ = false := Row.frozen hrV' 6
                        have HCL := Lib.hid (H35.out.1.close (by omega) H6.out.2)
                        clear hrV'
                        go_wp2
                        exact ⟨⟨j + 1, ⟨hfs ++ [(n, u)], (hh + 1), hc, some k, u, true⟩, by omega, by omega, by go_num, by first | rfl | go_num, by first | rfl | go_num, rfl, rfl, by dsimp only; omega, by dsimp only; omega, by rw [List.length_append, List.length_singleton]; omega, HL5.out, HLN2.out, HCL.out⟩, by simp [intOf]; omega⟩
                  · rw [show (u != tx) = true from bne_iff_ne.2 hut] at qn
                    have HUT := Lib.hid hut
                    clear hut
                    have hln : lineH ⟨hfs, hh, hc, (some ko), tx, hcl⟩ l = none := by rw [HLX.out]; simp [HUT.out]
                    have HOb : Hid (O = .bad 400) := Lib.hid (by
                      have h2 := HLI.out
                      rw [hln] at h2
                      rw [HOG.out, h2])
                    have HBW : Hid (Below W3.heap.size W3 W29) := Lib.hid H29.out.1.bel
                    clear hln
                    have hr2 := H3.out.2.1.below HBW.out H3.out.2.1.lt
                    have hr5 := H3.out.2.2.below HBW.out H3.out.2.2.lt
                    have c0 : W29.cell? ⟨b5, 0, none⟩ = some (.string ⟨#[]⟩) := cell_of_row W29 _ 0 _ 27 (0, 0) hr5
                    have c1 : W29.cell? ⟨b5, 1, none⟩ = some (.string ⟨#[]⟩) := cell_of_row W29 _ 1 _ 27 (0, 0) hr5
                    have c2 : W29.cell? ⟨b5, 2, none⟩ = some (.string ⟨#[]⟩) := cell_of_row W29 _ 2 _ 27 (0, 0) hr5
                    have c3 : W29.cell? ⟨b5, 3, none⟩ = some (.int .i64 0) := cell_of_row W29 _ 3 _ 27 (0, 0) hr5
                    have c4 : W29.cell? ⟨b5, 4, none⟩ = some (.slice none 0 0) := cell_of_row W29 _ 4 _ 27 (0, 0) hr5
                    have c5 : W29.cell? ⟨b5, 5, none⟩ = some (.string ⟨#[]⟩) := cell_of_row W29 _ 5 _ 27 (0, 0) hr5
                    have c6 : W29.cell? ⟨b5, 6, none⟩ = some (.bool false) := cell_of_row W29 _ 6 _ 27 (0, 0) hr5
                    have d0 : W29.cell? ⟨b2, 0, none⟩ = some (.string ⟨#[]⟩) := cell_of_row W29 _ 0 _ 27 (0, 0) hr2
                    have df0 : W29.frozen? ⟨b2, 0, none⟩ = false := Row.frozen hr2 0
                    have d1 : W29.cell? ⟨b2, 1, none⟩ = some (.string ⟨#[]⟩) := cell_of_row W29 _ 1 _ 27 (0, 0) hr2
                    have df1 : W29.frozen? ⟨b2, 1, none⟩ = false := Row.frozen hr2 1
                    have d2 : W29.cell? ⟨b2, 2, none⟩ = some (.string ⟨#[]⟩) := cell_of_row W29 _ 2 _ 27 (0, 0) hr2
                    have df2 : W29.frozen? ⟨b2, 2, none⟩ = false := Row.frozen hr2 2
                    have d3 : W29.cell? ⟨b2, 3, none⟩ = some (.int .i64 0) := cell_of_row W29 _ 3 _ 27 (0, 0) hr2
                    have df3 : W29.frozen? ⟨b2, 3, none⟩ = false := Row.frozen hr2 3
                    have d4 : W29.cell? ⟨b2, 4, none⟩ = some (.slice none 0 0) := cell_of_row W29 _ 4 _ 27 (0, 0) hr2
                    have df4 : W29.frozen? ⟨b2, 4, none⟩ = false := Row.frozen hr2 4
                    have d5 : W29.cell? ⟨b2, 5, none⟩ = some (.string ⟨#[]⟩) := cell_of_row W29 _ 5 _ 27 (0, 0) hr2
                    have df5 : W29.frozen? ⟨b2, 5, none⟩ = false := Row.frozen hr2 5
                    have d6 : W29.cell? ⟨b2, 6, none⟩ = some (.bool false) := cell_of_row W29 _ 6 _ 27 (0, 0) hr2
                    have df6 : W29.frozen? ⟨b2, 6, none⟩ = false := Row.frozen hr2 6
                    clear hr2 hr5
                    go_wp2
                    exact hbad.out W29 400 _ (H3.out.2.1.below HBW.out H3.out.2.1.lt) (H3.out.1.trans (HBW.out.mono H3.out.1.size)) rfl rfl rfl HOb.out
          | true =>
            have hwc : IntKind.i64.wrap ((hc : Int) + 1) = (hc : Int) + 1 := by rw [IntKind.wrap_i64]; omega
            go_wp2_with fail
            refine (HA3.out W28).mono ?_
            rintro e W36 ⟨rfl, hD⟩
            have H36 := Lib.hid (H28.out.below hD.below)
            clear hD k0 k1
            have k0 : W36.cell? ⟨K, 0, none⟩ = some (S n) := cell_of_row _ _ 0 _ 47 (0, 0) H36.out.2
            have k1 : W36.cell? ⟨K, 1, none⟩ = some (S u) := cell_of_row _ _ 1 _ 47 (0, 0) H36.out.2
            cases a3 with
            | false =>
              have hln : lineH ⟨hfs, hh, hc, ln, tx, hcl⟩ l = none := by rw [HLX.out]; simp
              have HOb : Hid (O = .bad 400) := Lib.hid (by
                have h2 := HLI.out
                rw [hln] at h2
                rw [HOG.out, h2])
              have HBW : Hid (Below W3.heap.size W3 W36) := Lib.hid H36.out.1.bel
              clear hln
              have hr2 := H3.out.2.1.below HBW.out H3.out.2.1.lt
              have hr5 := H3.out.2.2.below HBW.out H3.out.2.2.lt
              have c0 : W36.cell? ⟨b5, 0, none⟩ = some (.string ⟨#[]⟩) := cell_of_row W36 _ 0 _ 27 (0, 0) hr5
              have c1 : W36.cell? ⟨b5, 1, none⟩ = some (.string ⟨#[]⟩) := cell_of_row W36 _ 1 _ 27 (0, 0) hr5
              have c2 : W36.cell? ⟨b5, 2, none⟩ = some (.string ⟨#[]⟩) := cell_of_row W36 _ 2 _ 27 (0, 0) hr5
              have c3 : W36.cell? ⟨b5, 3, none⟩ = some (.int .i64 0) := cell_of_row W36 _ 3 _ 27 (0, 0) hr5
              have c4 : W36.cell? ⟨b5, 4, none⟩ = some (.slice none 0 0) := cell_of_row W36 _ 4 _ 27 (0, 0) hr5
              have c5 : W36.cell? ⟨b5, 5, none⟩ = some (.string ⟨#[]⟩) := cell_of_row W36 _ 5 _ 27 (0, 0) hr5
              have c6 : W36.cell? ⟨b5, 6, none⟩ = some (.bool false) := cell_of_row W36 _ 6 _ 27 (0, 0) hr5
              have d0 : W36.cell? ⟨b2, 0, none⟩ = some (.string ⟨#[]⟩) := cell_of_row W36 _ 0 _ 27 (0, 0) hr2
              have df0 : W36.frozen? ⟨b2, 0, none⟩ = false := Row.frozen hr2 0
              have d1 : W36.cell? ⟨b2, 1, none⟩ = some (.string ⟨#[]⟩) := cell_of_row W36 _ 1 _ 27 (0, 0) hr2
              have df1 : W36.frozen? ⟨b2, 1, none⟩ = false := Row.frozen hr2 1
              have d2 : W36.cell? ⟨b2, 2, none⟩ = some (.string ⟨#[]⟩) := cell_of_row W36 _ 2 _ 27 (0, 0) hr2
              have df2 : W36.frozen? ⟨b2, 2, none⟩ = false := Row.frozen hr2 2
              have d3 : W36.cell? ⟨b2, 3, none⟩ = some (.int .i64 0) := cell_of_row W36 _ 3 _ 27 (0, 0) hr2
              have df3 : W36.frozen? ⟨b2, 3, none⟩ = false := Row.frozen hr2 3
              have d4 : W36.cell? ⟨b2, 4, none⟩ = some (.slice none 0 0) := cell_of_row W36 _ 4 _ 27 (0, 0) hr2
              have df4 : W36.frozen? ⟨b2, 4, none⟩ = false := Row.frozen hr2 4
              have d5 : W36.cell? ⟨b2, 5, none⟩ = some (.string ⟨#[]⟩) := cell_of_row W36 _ 5 _ 27 (0, 0) hr2
              have df5 : W36.frozen? ⟨b2, 5, none⟩ = false := Row.frozen hr2 5
              have d6 : W36.cell? ⟨b2, 6, none⟩ = some (.bool false) := cell_of_row W36 _ 6 _ 27 (0, 0) hr2
              have df6 : W36.frozen? ⟨b2, 6, none⟩ = false := Row.frozen hr2 6
              clear hr2 hr5
              go_wp2
              exact hbad.out W36 400 _ (H3.out.2.1.below HBW.out H3.out.2.1.lt) (H3.out.1.trans (HBW.out.mono H3.out.1.size)) rfl rfl rfl HOb.out
            | true =>
              go_wp2_with fail
              refine (HA4.out W36).mono ?_
              rintro e W37 ⟨rfl, hD⟩
              have H37 := Lib.hid (H36.out.below hD.below)
              clear hD k0 k1
              have k0 : W37.cell? ⟨K, 0, none⟩ = some (S n) := cell_of_row _ _ 0 _ 47 (0, 0) H37.out.2
              have k1 : W37.cell? ⟨K, 1, none⟩ = some (S u) := cell_of_row _ _ 1 _ 47 (0, 0) H37.out.2
              cases a4 with
              | false =>
                go_wp2_with fail
                refine (HA5.out W37).mono ?_
                rintro e W38 ⟨rfl, hD⟩
                have H38 := Lib.hid (H37.out.below hD.below)
                clear hD k0 k1
                have k0 : W38.cell? ⟨K, 0, none⟩ = some (S n) := cell_of_row _ _ 0 _ 47 (0, 0) H38.out.2
                have k1 : W38.cell? ⟨K, 1, none⟩ = some (S u) := cell_of_row _ _ 1 _ 47 (0, 0) H38.out.2
                cases a5 with
                | false =>
                  have hl : lineH ⟨hfs, hh, hc, ln, tx, hcl⟩ l = some ⟨hfs ++ [(n, u)], (hh + 1), (hc + 1), ln, tx, hcl⟩ := by rw [HLX.out]; simp
                  have HLN2 : Hid (linesH ⟨[], 0, 0, none, [], cl0⟩ lr = linesH ⟨hfs ++ [(n, u)], (hh + 1), (hc + 1), ln, tx, hcl⟩ (ls.drop (j + 1))) := Lib.hid (by
                    have h2 := HLI.out
                    rw [hl] at h2
                    exact h2)
                  have HL5 : Hid (∀ k', ln = some k' → k' ≤ 5000) := Lib.hid (HLN5.out)
                  clear hl
                  go_wp2
                  exact ⟨⟨j + 1, ⟨hfs ++ [(n, u)], (hh + 1), (hc + 1), ln, tx, hcl⟩, by omega, by omega, by go_num, by first | rfl | go_num, by first | rfl | go_num, rfl, rfl, by dsimp only; omega, by dsimp only; omega, by rw [List.length_append, List.length_singleton]; omega, HL5.out, HLN2.out, H38.out.1⟩, by simp [intOf]; omega⟩
                | true =>
                  go_wp2_with fail
                  refine (HA6.out W38).mono ?_
                  rintro e W39 ⟨rfl, hD⟩
                  have H39 := Lib.hid (H38.out.below hD)
                  clear hD k0 k1
                  have k0 : W39.cell? ⟨K, 0, none⟩ = some (S n) := cell_of_row _ _ 0 _ 47 (0, 0) H39.out.2
                  have k1 : W39.cell? ⟨K, 1, none⟩ = some (S u) := cell_of_row _ _ 1 _ 47 (0, 0) H39.out.2
                  cases a6 with
                  | false =>
                    have hl : lineH ⟨hfs, hh, hc, ln, tx, hcl⟩ l = some ⟨hfs ++ [(n, u)], (hh + 1), (hc + 1), ln, tx, hcl⟩ := by rw [HLX.out]; simp
                    have HLN2 : Hid (linesH ⟨[], 0, 0, none, [], cl0⟩ lr = linesH ⟨hfs ++ [(n, u)], (hh + 1), (hc + 1), ln, tx, hcl⟩ (ls.drop (j + 1))) := Lib.hid (by
                      have h2 := HLI.out
                      rw [hl] at h2
                      exact h2)
                    have HL5 : Hid (∀ k', ln = some k' → k' ≤ 5000) := Lib.hid (HLN5.out)
                    clear hl
                    go_wp2
                    exact ⟨⟨j + 1, ⟨hfs ++ [(n, u)], (hh + 1), (hc + 1), ln, tx, hcl⟩, by omega, by omega, by go_num, by first | rfl | go_num, by first | rfl | go_num, rfl, rfl, by dsimp only; omega, by dsimp only; omega, by rw [List.length_append, List.length_singleton]; omega, HL5.out, HLN2.out, H39.out.1⟩, by simp [intOf]; omega⟩
                  | true =>
                    have hl : lineH ⟨hfs, hh, hc, ln, tx, hcl⟩ l = some ⟨hfs ++ [(n, u)], (hh + 1), (hc + 1), ln, tx, true⟩ := by rw [HLX.out]; simp
                    have HLN2 : Hid (linesH ⟨[], 0, 0, none, [], cl0⟩ lr = linesH ⟨hfs ++ [(n, u)], (hh + 1), (hc + 1), ln, tx, true⟩ (ls.drop (j + 1))) := Lib.hid (by
                      have h2 := HLI.out
                      rw [hl] at h2
                      exact h2)
                    have HL5 : Hid (∀ k', ln = some k' → k' ≤ 5000) := Lib.hid (HLN5.out)
                    clear hl
                    obtain ⟨V', hrV', _⟩ := H39.out.1.ex
                    have c6 : W39.cell? ⟨b14, 6, none⟩ = some (.bool hcl) := cell_of_row _ _ 6 _ 27 (0, 0) hrV'
                    have f6 : W39.frozen? ⟨b14, 6, none⟩ = false := Row.frozen hrV' 6
                    have HCL := Lib.hid (H39.out.1.close (by omega) H6.out.2)
                    clear hrV'
                    go_wp2
                    exact ⟨⟨j + 1, ⟨hfs ++ [(n, u)], (hh + 1), (hc + 1), ln, tx, true⟩, by omega, by omega, by go_num, by first | rfl | go_num, by first | rfl | go_num, rfl, rfl, by dsimp only; omega, by dsimp only; omega, by rw [List.length_append, List.length_singleton]; omega, HL5.out, HLN2.out, HCL.out⟩, by simp [intOf]; omega⟩
              | true =>
                go_wp2_with fail
                refine (HNM.out W37).mono ?_
                rintro e w1 ⟨rfl, hw1⟩
                obtain rfl := hw1.symm
                clear hw1
                cases nu with
                | none =>
                  rw [show optV none = .int .i64 (-1) from rfl]
                  have hln : lineH ⟨hfs, hh, hc, ln, tx, hcl⟩ l = none := by rw [HLX.out]; simp
                  have HOb : Hid (O = .bad 400) := Lib.hid (by
                    have h2 := HLI.out
                    rw [hln] at h2
                    rw [HOG.out, h2])
                  have HBW : Hid (Below W3.heap.size W3 W37) := Lib.hid H37.out.1.bel
                  clear hln
                  have hr2 := H3.out.2.1.below HBW.out H3.out.2.1.lt
                  have hr5 := H3.out.2.2.below HBW.out H3.out.2.2.lt
                  have c0 : W37.cell? ⟨b5, 0, none⟩ = some (.string ⟨#[]⟩) := cell_of_row W37 _ 0 _ 27 (0, 0) hr5
                  have c1 : W37.cell? ⟨b5, 1, none⟩ = some (.string ⟨#[]⟩) := cell_of_row W37 _ 1 _ 27 (0, 0) hr5
                  have c2 : W37.cell? ⟨b5, 2, none⟩ = some (.string ⟨#[]⟩) := cell_of_row W37 _ 2 _ 27 (0, 0) hr5
                  have c3 : W37.cell? ⟨b5, 3, none⟩ = some (.int .i64 0) := cell_of_row W37 _ 3 _ 27 (0, 0) hr5
                  have c4 : W37.cell? ⟨b5, 4, none⟩ = some (.slice none 0 0) := cell_of_row W37 _ 4 _ 27 (0, 0) hr5
                  have c5 : W37.cell? ⟨b5, 5, none⟩ = some (.string ⟨#[]⟩) := cell_of_row W37 _ 5 _ 27 (0, 0) hr5
                  have c6 : W37.cell? ⟨b5, 6, none⟩ = some (.bool false) := cell_of_row W37 _ 6 _ 27 (0, 0) hr5
                  have d0 : W37.cell? ⟨b2, 0, none⟩ = some (.string ⟨#[]⟩) := cell_of_row W37 _ 0 _ 27 (0, 0) hr2
                  have df0 : W37.frozen? ⟨b2, 0, none⟩ = false := Row.frozen hr2 0
                  have d1 : W37.cell? ⟨b2, 1, none⟩ = some (.string ⟨#[]⟩) := cell_of_row W37 _ 1 _ 27 (0, 0) hr2
                  have df1 : W37.frozen? ⟨b2, 1, none⟩ = false := Row.frozen hr2 1
                  have d2 : W37.cell? ⟨b2, 2, none⟩ = some (.string ⟨#[]⟩) := cell_of_row W37 _ 2 _ 27 (0, 0) hr2
                  have df2 : W37.frozen? ⟨b2, 2, none⟩ = false := Row.frozen hr2 2
                  have d3 : W37.cell? ⟨b2, 3, none⟩ = some (.int .i64 0) := cell_of_row W37 _ 3 _ 27 (0, 0) hr2
                  have df3 : W37.frozen? ⟨b2, 3, none⟩ = false := Row.frozen hr2 3
                  have d4 : W37.cell? ⟨b2, 4, none⟩ = some (.slice none 0 0) := cell_of_row W37 _ 4 _ 27 (0, 0) hr2
                  have df4 : W37.frozen? ⟨b2, 4, none⟩ = false := Row.frozen hr2 4
                  have d5 : W37.cell? ⟨b2, 5, none⟩ = some (.string ⟨#[]⟩) := cell_of_row W37 _ 5 _ 27 (0, 0) hr2
                  have df5 : W37.frozen? ⟨b2, 5, none⟩ = false := Row.frozen hr2 5
                  have d6 : W37.cell? ⟨b2, 6, none⟩ = some (.bool false) := cell_of_row W37 _ 6 _ 27 (0, 0) hr2
                  have df6 : W37.frozen? ⟨b2, 6, none⟩ = false := Row.frozen hr2 6
                  clear hr2 hr5
                  go_wp2
                  exact hbad.out W37 400 _ (H3.out.2.1.below HBW.out H3.out.2.1.lt) (H3.out.1.trans (HBW.out.mono H3.out.1.size)) rfl rfl rfl HOb.out
                | some k =>
                  have hk5 := HNU.out k rfl
                  have gk : decide ((k : Int) < 0) = false := decide_eq_false (by omega)
                  rw [show optV (some k) = .int .i64 (k : Int) from rfl]
                  cases ln with
                  | none =>
                    rw [show optV none = .int .i64 (-1) from rfl]
                    go_wp2_with fail
                    refine (HA5.out W37).mono ?_
                    rintro e W40 ⟨rfl, hD⟩
                    have H40 := Lib.hid (H37.out.below hD.below)
                    clear hD k0 k1
                    have k0 : W40.cell? ⟨K, 0, none⟩ = some (S n) := cell_of_row _ _ 0 _ 47 (0, 0) H40.out.2
                    have k1 : W40.cell? ⟨K, 1, none⟩ = some (S u) := cell_of_row _ _ 1 _ 47 (0, 0) H40.out.2
                    cases a5 with
                    | false =>
                      have hl : lineH ⟨hfs, hh, hc, none, tx, hcl⟩ l = some ⟨hfs ++ [(n, u)], (hh + 1), (hc + 1), some k, u, hcl⟩ := by rw [HLX.out]; simp
                      have HLN2 : Hid (linesH ⟨[], 0, 0, none, [], cl0⟩ lr = linesH ⟨hfs ++ [(n, u)], (hh + 1), (hc + 1), some k, u, hcl⟩ (ls.drop (j + 1))) := Lib.hid (by
                        have h2 := HLI.out
                        rw [hl] at h2
                        exact h2)
                      have HL5 : Hid (∀ k', some k = some k' → k' ≤ 5000) := Lib.hid ((fun k' hk => by cases hk; exact hk5))
                      clear hl
                      go_wp2
                      exact ⟨⟨j + 1, ⟨hfs ++ [(n, u)], (hh + 1), (hc + 1), some k, u, hcl⟩, by omega, by omega, by go_num, by first | rfl | go_num, by first | rfl | go_num, rfl, rfl, by dsimp only; omega, by dsimp only; omega, by rw [List.length_append, List.length_singleton]; omega, HL5.out, HLN2.out, H40.out.1⟩, by simp [intOf]; omega⟩
                    | true =>
                      go_wp2_with fail
                      refine (HA6.out W40).mono ?_
                      rintro e W41 ⟨rfl, hD⟩
                      have H41 := Lib.hid (H40.out.below hD)
                      clear hD k0 k1
                      have k0 : W41.cell? ⟨K, 0, none⟩ = some (S n) := cell_of_row _ _ 0 _ 47 (0, 0) H41.out.2
                      have k1 : W41.cell? ⟨K, 1, none⟩ = some (S u) := cell_of_row _ _ 1 _ 47 (0, 0) H41.out.2
                      cases a6 with
                      | false =>
                        have hl : lineH ⟨hfs, hh, hc, none, tx, hcl⟩ l = some ⟨hfs ++ [(n, u)], (hh + 1), (hc + 1), some k, u, hcl⟩ := by rw [HLX.out]; simp
                        have HLN2 : Hid (linesH ⟨[], 0, 0, none, [], cl0⟩ lr = linesH ⟨hfs ++ [(n, u)], (hh + 1), (hc + 1), some k, u, hcl⟩ (ls.drop (j + 1))) := Lib.hid (by
                          have h2 := HLI.out
                          rw [hl] at h2
                          exact h2)
                        have HL5 : Hid (∀ k', some k = some k' → k' ≤ 5000) := Lib.hid ((fun k' hk => by cases hk; exact hk5))
                        clear hl
                        go_wp2
                        exact ⟨⟨j + 1, ⟨hfs ++ [(n, u)], (hh + 1), (hc + 1), some k, u, hcl⟩, by omega, by omega, by go_num, by first | rfl | go_num, by first | rfl | go_num, rfl, rfl, by dsimp only; omega, by dsimp only; omega, by rw [List.length_append, List.length_singleton]; omega, HL5.out, HLN2.out, H41.out.1⟩, by simp [intOf]; omega⟩
                      | true =>
                        have hl : lineH ⟨hfs, hh, hc, none, tx, hcl⟩ l = some ⟨hfs ++ [(n, u)], (hh + 1), (hc + 1), some k, u, true⟩ := by rw [HLX.out]; simp
                        have HLN2 : Hid (linesH ⟨[], 0, 0, none, [], cl0⟩ lr = linesH ⟨hfs ++ [(n, u)], (hh + 1), (hc + 1), some k, u, true⟩ (ls.drop (j + 1))) := Lib.hid (by
                          have h2 := HLI.out
                          rw [hl] at h2
                          exact h2)
                        have HL5 : Hid (∀ k', some k = some k' → k' ≤ 5000) := Lib.hid ((fun k' hk => by cases hk; exact hk5))
                        clear hl
                        obtain ⟨V', hrV', _⟩ := H41.out.1.ex
                        have c6 : W41.cell? ⟨b14, 6, none⟩ = some (.bool hcl) := cell_of_row _ _ 6 _ 27 (0, 0) hrV'
                        have f6 : W41.frozen? ⟨b14, 6, none⟩ = false := Row.frozen hrV' 6
                        have HCL := Lib.hid (H41.out.1.close (by omega) H6.out.2)
                        clear hrV'
                        go_wp2
                        exact ⟨⟨j + 1, ⟨hfs ++ [(n, u)], (hh + 1), (hc + 1), some k, u, true⟩, by omega, by omega, by go_num, by first | rfl | go_num, by first | rfl | go_num, rfl, rfl, by dsimp only; omega, by dsimp only; omega, by rw [List.length_append, List.length_singleton]; omega, HL5.out, HLN2.out, HCL.out⟩, by simp [intOf]; omega⟩
                  | some ko =>
                    have hk05 := HLN5.out ko rfl
                    have gk0 : decide ((0 : Int) ≤ (ko : Int)) = true := decide_eq_true (by omega)
                    rw [show optV (some ko) = .int .i64 (ko : Int) from rfl]
                    have qn : binOp .neq 9 (S u) (S tx) = pure (.bool (u != tx)) := neql_S 9 u tx
                    have qg := nguard_S 9
                    by_cases hut : u = tx
                    · rw [show (u != tx) = false by rw [hut]; simp] at qn
                      have HUT := Lib.hid hut
                      clear hut
                      go_wp2_with fail
                      refine (HA5.out W37).mono ?_
                      rintro e W42 ⟨rfl, hD⟩
                      have H42 := Lib.hid (H37.out.below hD.below)
                      clear hD k0 k1
                      have k0 : W42.cell? ⟨K, 0, none⟩ = some (S n) := cell_of_row _ _ 0 _ 47 (0, 0) H42.out.2
                      have k1 : W42.cell? ⟨K, 1, none⟩ = some (S u) := cell_of_row _ _ 1 _ 47 (0, 0) H42.out.2
                      cases a5 with
                      | false =>
                        have hl : lineH ⟨hfs, hh, hc, (some ko), tx, hcl⟩ l = some ⟨hfs ++ [(n, u)], (hh + 1), (hc + 1), some k, u, hcl⟩ := by rw [HLX.out]; simp [HUT.out]
                        have HLN2 : Hid (linesH ⟨[], 0, 0, none, [], cl0⟩ lr = linesH ⟨hfs ++ [(n, u)], (hh + 1), (hc + 1), some k, u, hcl⟩ (ls.drop (j + 1))) := Lib.hid (by
                          have h2 := HLI.out
                          rw [hl] at h2
                          exact h2)
                        have HL5 : Hid (∀ k', some k = some k' → k' ≤ 5000) := Lib.hid ((fun k' hk => by cases hk; exact hk5))
                        clear hl
                        go_wp2
                        exact ⟨⟨j + 1, ⟨hfs ++ [(n, u)], (hh + 1), (hc + 1), some k, u, hcl⟩, by omega, by omega, by go_num, by first | rfl | go_num, by first | rfl | go_num, rfl, rfl, by dsimp only; omega, by dsimp only; omega, by rw [List.length_append, List.length_singleton]; omega, HL5.out, HLN2.out, H42.out.1⟩, by simp [intOf]; omega⟩
                      | true =>
                        go_wp2_with fail
                        refine (HA6.out W42).mono ?_
                        rintro e W43 ⟨rfl, hD⟩
                        have H43 := Lib.hid (H42.out.below hD)
                        clear hD k0 k1
                        have k0 : W43.cell? ⟨K, 0, none⟩ = some (S n) := cell_of_row _ _ 0 _ 47 (0, 0) H43.out.2
                        have k1 : W43.cell? ⟨K, 1, none⟩ = some (S u) := cell_of_row _ _ 1 _ 47 (0, 0) H43.out.2
                        cases a6 with
                        | false =>
                          have hl : lineH ⟨hfs, hh, hc, (some ko), tx, hcl⟩ l = some ⟨hfs ++ [(n, u)], (hh + 1), (hc + 1), some k, u, hcl⟩ := by rw [HLX.out]; simp [HUT.out]
                          have HLN2 : Hid (linesH ⟨[], 0, 0, none, [], cl0⟩ lr = linesH ⟨hfs ++ [(n, u)], (hh + 1), (hc + 1), some k, u, hcl⟩ (ls.drop (j + 1))) := Lib.hid (by
                            have h2 := HLI.out
                            rw [hl] at h2
                            exact h2)
                          have HL5 : Hid (∀ k', some k = some k' → k' ≤ 5000) := Lib.hid ((fun k' hk => by cases hk; exact hk5))
                          clear hl
                          go_wp2
                          exact ⟨⟨j + 1, ⟨hfs ++ [(n, u)], (hh + 1), (hc + 1), some k, u, hcl⟩, by omega, by omega, by go_num, by first | rfl | go_num, by first | rfl | go_num, rfl, rfl, by dsimp only; omega, by dsimp only; omega, by rw [List.length_append, List.length_singleton]; omega, HL5.out, HLN2.out, H43.out.1⟩, by simp [intOf]; omega⟩
                        | true =>
                          have hl : lineH ⟨hfs, hh, hc, (some ko), tx, hcl⟩ l = some ⟨hfs ++ [(n, u)], (hh + 1), (hc + 1), some k, u, true⟩ := by rw [HLX.out]; simp [HUT.out]
                          have HLN2 : Hid (linesH ⟨[], 0, 0, none, [], cl0⟩ lr = linesH ⟨hfs ++ [(n, u)], (hh + 1), (hc + 1), some k, u, true⟩ (ls.drop (j + 1))) := Lib.hid (by
                            have h2 := HLI.out
                            rw [hl] at h2
                            exact h2)
                          have HL5 : Hid (∀ k', some k = some k' → k' ≤ 5000) := Lib.hid ((fun k' hk => by cases hk; exact hk5))
                          clear hl
                          obtain ⟨V', hrV', _⟩ := H43.out.1.ex
                          have c6 : W43.cell? ⟨b14, 6, none⟩ = some (.bool hcl) := cell_of_row _ _ 6 _ 27 (0, 0) hrV'
                          have f6 : W43.frozen? ⟨b14, 6, none⟩ = false := Row.frozen hrV' 6
                          have HCL := Lib.hid (H43.out.1.close (by omega) H6.out.2)
                          clear hrV'
                          go_wp2
                          exact ⟨⟨j + 1, ⟨hfs ++ [(n, u)], (hh + 1), (hc + 1), some k, u, true⟩, by omega, by omega, by go_num, by first | rfl | go_num, by first | rfl | go_num, rfl, rfl, by dsimp only; omega, by dsimp only; omega, by rw [List.length_append, List.length_singleton]; omega, HL5.out, HLN2.out, HCL.out⟩, by simp [intOf]; omega⟩
                    · rw [show (u != tx) = true from bne_iff_ne.2 hut] at qn
                      have HUT := Lib.hid hut
                      clear hut
                      have hln : lineH ⟨hfs, hh, hc, (some ko), tx, hcl⟩ l = none := by rw [HLX.out]; simp [HUT.out]
                      have HOb : Hid (O = .bad 400) := Lib.hid (by
                        have h2 := HLI.out
                        rw [hln] at h2
                        rw [HOG.out, h2])
                      have HBW : Hid (Below W3.heap.size W3 W37) := Lib.hid H37.out.1.bel
                      clear hln
                      have hr2 := H3.out.2.1.below HBW.out H3.out.2.1.lt
                      have hr5 := H3.out.2.2.below HBW.out H3.out.2.2.lt
                      have c0 : W37.cell? ⟨b5, 0, none⟩ = some (.string ⟨#[]⟩) := cell_of_row W37 _ 0 _ 27 (0, 0) hr5
                      have c1 : W37.cell? ⟨b5, 1, none⟩ = some (.string ⟨#[]⟩) := cell_of_row W37 _ 1 _ 27 (0, 0) hr5
                      have c2 : W37.cell? ⟨b5, 2, none⟩ = some (.string ⟨#[]⟩) := cell_of_row W37 _ 2 _ 27 (0, 0) hr5
                      have c3 : W37.cell? ⟨b5, 3, none⟩ = some (.int .i64 0) := cell_of_row W37 _ 3 _ 27 (0, 0) hr5
                      have c4 : W37.cell? ⟨b5, 4, none⟩ = some (.slice none 0 0) := cell_of_row W37 _ 4 _ 27 (0, 0) hr5
                      have c5 : W37.cell? ⟨b5, 5, none⟩ = some (.string ⟨#[]⟩) := cell_of_row W37 _ 5 _ 27 (0, 0) hr5
                      have c6 : W37.cell? ⟨b5, 6, none⟩ = some (.bool false) := cell_of_row W37 _ 6 _ 27 (0, 0) hr5
                      have d0 : W37.cell? ⟨b2, 0, none⟩ = some (.string ⟨#[]⟩) := cell_of_row W37 _ 0 _ 27 (0, 0) hr2
                      have df0 : W37.frozen? ⟨b2, 0, none⟩ = false := Row.frozen hr2 0
                      have d1 : W37.cell? ⟨b2, 1, none⟩ = some (.string ⟨#[]⟩) := cell_of_row W37 _ 1 _ 27 (0, 0) hr2
                      have df1 : W37.frozen? ⟨b2, 1, none⟩ = false := Row.frozen hr2 1
                      have d2 : W37.cell? ⟨b2, 2, none⟩ = some (.string ⟨#[]⟩) := cell_of_row W37 _ 2 _ 27 (0, 0) hr2
                      have df2 : W37.frozen? ⟨b2, 2, none⟩ = false := Row.frozen hr2 2
                      have d3 : W37.cell? ⟨b2, 3, none⟩ = some (.int .i64 0) := cell_of_row W37 _ 3 _ 27 (0, 0) hr2
                      have df3 : W37.frozen? ⟨b2, 3, none⟩ = false := Row.frozen hr2 3
                      have d4 : W37.cell? ⟨b2, 4, none⟩ = some (.slice none 0 0) := cell_of_row W37 _ 4 _ 27 (0, 0) hr2
                      have df4 : W37.frozen? ⟨b2, 4, none⟩ = false := Row.frozen hr2 4
                      have d5 : W37.cell? ⟨b2, 5, none⟩ = some (.string ⟨#[]⟩) := cell_of_row W37 _ 5 _ 27 (0, 0) hr2
                      have df5 : W37.frozen? ⟨b2, 5, none⟩ = false := Row.frozen hr2 5
                      have d6 : W37.cell? ⟨b2, 6, none⟩ = some (.bool false) := cell_of_row W37 _ 6 _ 27 (0, 0) hr2
                      have df6 : W37.frozen? ⟨b2, 6, none⟩ = false := Row.frozen hr2 6
                      clear hr2 hr5
                      go_wp2
                      exact hbad.out W37 400 _ (H3.out.2.1.below HBW.out H3.out.2.1.lt) (H3.out.1.trans (HBW.out.mono H3.out.1.size)) rfl rfl rfl HOb.out
    · have hjn : j = N := by omega
      have gj : decide ((j : Int) < (N : Int)) = false := decide_eq_false (by omega)
      have HOH : Hid (O = if (v = 11 ∧ hh ≠ 1) ∨ 1 < hc ∨ (hc = 1 ∧ (v = 10 ∨ ln ≠ none)) then .bad 400
        else if hc = 1 then .ok ⟨m, pa, qa, v, hfs, [], hcl⟩ none
        else if 4096 < ln.getD 0 then .bad 413
        else .ok ⟨m, pa, qa, v, hfs, [], hcl⟩ (some (ln.getD 0))) := Lib.hid (by
        have h2 := HLIN.out
        rw [List.drop_of_length_le (by rw [hjn, ← HN.out]; exact Nat.le_refl _)] at h2
        rw [HOG.out, h2]
        rfl)
      obtain ⟨V, hrV, hoV⟩ := HS.out.ex
      have hoc : V.oneCell' = true := by
        rcases hoV.2 with ⟨e, _⟩ | ⟨_, _, _, e, _⟩
        · rw [e]; rfl
        · rw [e]; rfl
      have hsV : ∀ (W : World) (m : Mode), (W.cell? ⟨b2, 4, none⟩).isSome = true → W.frozen? ⟨b2, 4, none⟩ = false → (store ⟨b2, 4, none⟩ V m).run Tryz.prog W = .ok () (W.setCell ⟨b2, 4, none⟩ V) := fun W m h1 h2 => run_store_ok _ W _ V m hoc h1 h2
      have HBW := Lib.hid HS.out.bel
      have hr2 := H3.out.2.1.below HBW.out H3.out.2.1.lt
      have hr5 := H3.out.2.2.below HBW.out H3.out.2.2.lt
      have HR2 := Lib.hid hr2
      have HBB : Hid (Below w.heap.size w wr) := Lib.hid (H3.out.1.trans (HBW.out.mono H3.out.1.size))
      have hok : Hid (∀ (len : Option Nat) (tmps : Array Value), tmps.getD 2 undef = .pointer (some ⟨b2, 0, none⟩) → tmps.getD 3 undef = optV len → tmps.getD 4 undef = .int .i64 0 → O = .ok ⟨m, pa, qa, v, hfs, [], hcl⟩ len →
          bodyPost Tryz.prog Tryz.f32 (HeadPost w O) .ret { tmps := tmps, defers := [] } (put7 wr b2 (S m) (S pa) (S qa) (.int .i64 (v : Int)) V (S []) (.bool hcl))) := Lib.hid fun len tmps h2 h3 h4 ho => by
        refine bodyPost_ret (request_end rfl _ _ b2 _ h2 (put7_row HR2.out _ _ _ _ _ _ _) rfl) rfl ?_
        rw [ho]
        have e2 := H2.out.2.2.2.1
        refine ⟨put7_below HBB.out (Nat.le_of_eq e2.symm) _ _ _ _ _ _ _, V, by rw [h3, h4]; rfl, ?_⟩
        have hlt : b2 < b14 + 1 := by
          have := H2.out.1.lt
          have h5 := H2.out.2.1.lt
          have h6 := H6.out.2
          have h7 := H3.out.2.1.lt
          omega
        exact own_weak (own_put7 hoV hlt _ _ _ _ _ _ _) (by have := H2.out.2.2.2.1; omega)
      have c0 : wr.cell? ⟨b5, 0, none⟩ = some (.string ⟨#[]⟩) := cell_of_row wr _ 0 _ 27 (0, 0) hr5
      have c1 : wr.cell? ⟨b5, 1, none⟩ = some (.string ⟨#[]⟩) := cell_of_row wr _ 1 _ 27 (0, 0) hr5
      have c2 : wr.cell? ⟨b5, 2, none⟩ = some (.string ⟨#[]⟩) := cell_of_row wr _ 2 _ 27 (0, 0) hr5
      have c3 : wr.cell? ⟨b5, 3, none⟩ = some (.int .i64 0) := cell_of_row wr _ 3 _ 27 (0, 0) hr5
      have c4 : wr.cell? ⟨b5, 4, none⟩ = some (.slice none 0 0) := cell_of_row wr _ 4 _ 27 (0, 0) hr5
      have c5 : wr.cell? ⟨b5, 5, none⟩ = some (.string ⟨#[]⟩) := cell_of_row wr _ 5 _ 27 (0, 0) hr5
      have c6 : wr.cell? ⟨b5, 6, none⟩ = some (.bool false) := cell_of_row wr _ 6 _ 27 (0, 0) hr5
      have d0 : wr.cell? ⟨b2, 0, none⟩ = some (.string ⟨#[]⟩) := cell_of_row wr _ 0 _ 27 (0, 0) hr2
      have df0 : wr.frozen? ⟨b2, 0, none⟩ = false := Row.frozen hr2 0
      have d1 : wr.cell? ⟨b2, 1, none⟩ = some (.string ⟨#[]⟩) := cell_of_row wr _ 1 _ 27 (0, 0) hr2
      have df1 : wr.frozen? ⟨b2, 1, none⟩ = false := Row.frozen hr2 1
      have d2 : wr.cell? ⟨b2, 2, none⟩ = some (.string ⟨#[]⟩) := cell_of_row wr _ 2 _ 27 (0, 0) hr2
      have df2 : wr.frozen? ⟨b2, 2, none⟩ = false := Row.frozen hr2 2
      have d3 : wr.cell? ⟨b2, 3, none⟩ = some (.int .i64 0) := cell_of_row wr _ 3 _ 27 (0, 0) hr2
      have df3 : wr.frozen? ⟨b2, 3, none⟩ = false := Row.frozen hr2 3
      have d4 : wr.cell? ⟨b2, 4, none⟩ = some (.slice none 0 0) := cell_of_row wr _ 4 _ 27 (0, 0) hr2
      have df4 : wr.frozen? ⟨b2, 4, none⟩ = false := Row.frozen hr2 4
      have d5 : wr.cell? ⟨b2, 5, none⟩ = some (.string ⟨#[]⟩) := cell_of_row wr _ 5 _ 27 (0, 0) hr2
      have df5 : wr.frozen? ⟨b2, 5, none⟩ = false := Row.frozen hr2 5
      have d6 : wr.cell? ⟨b2, 6, none⟩ = some (.bool false) := cell_of_row wr _ 6 _ 27 (0, 0) hr2
      have df6 : wr.frozen? ⟨b2, 6, none⟩ = false := Row.frozen hr2 6
      have e0 : wr.cell? ⟨b14, 0, none⟩ = some (S m) := cell_of_row wr _ 0 _ 27 (0, 0) hrV
      have e1 : wr.cell? ⟨b14, 1, none⟩ = some (S pa) := cell_of_row wr _ 1 _ 27 (0, 0) hrV
      have e2 : wr.cell? ⟨b14, 2, none⟩ = some (S qa) := cell_of_row wr _ 2 _ 27 (0, 0) hrV
      have e3 : wr.cell? ⟨b14, 3, none⟩ = some (.int .i64 (v : Int)) := cell_of_row wr _ 3 _ 27 (0, 0) hrV
      have e4 : wr.cell? ⟨b14, 4, none⟩ = some (V) := cell_of_row wr _ 4 _ 27 (0, 0) hrV
      have e5 : wr.cell? ⟨b14, 5, none⟩ = some (S []) := cell_of_row wr _ 5 _ 27 (0, 0) hrV
      have e6 : wr.cell? ⟨b14, 6, none⟩ = some (.bool hcl) := cell_of_row wr _ 6 _ 27 (0, 0) hrV
      have HLN5' := HLN5
      clear hr2 hr5 hrV hoV q10 HLIN HS hjn
      have hvv := HV.out
      by_cases hv11 : v = 11
      · have g11 : ((v : Int) == 11) = true := by rw [beq_iff_eq]; omega
        have g10 : ((v : Int) == 10) = false := by rw [beq_eq_false_iff_ne]; omega
        have HV11 := Lib.hid hv11
        clear hv11 hvv
        by_cases hh1 : hh = 1
        · have gh : ((hh : Int) != 1) = false := by rw [bne_eq_false_iff_eq]; omega
          by_cases hc1 : 1 < hc
          · have gc : decide ((1 : Int) < (hc : Int)) = true := decide_eq_true (by omega)
            have HOb : Hid (O = .bad 400) := Lib.hid (by rw [HOH.out]; rw [if_pos (.inr (.inl hc1))])
            go_wp2
            exact hbad.out wr 400 _ HR2.out HBB.out rfl rfl rfl HOb.out
          have gc : decide ((1 : Int) < (hc : Int)) = false := decide_eq_false (by omega)
          by_cases hce : hc = 1
          · have ge : ((hc : Int) == 1) = true := by rw [beq_iff_eq]; omega
            cases ln with
            | none =>
              rw [show optV none = .int .i64 (-1) from rfl]
              have HOb : Hid (O = .ok ⟨m, pa, qa, v, hfs, [], hcl⟩ (none)) := Lib.hid (by rw [HOH.out]; rw [if_neg (by rintro (⟨_, h⟩ | h | ⟨_, h | h⟩) <;> first | exact absurd hh1 h | exact hc1 h | (have := HV11.out; omega) | exact h rfl), if_pos hce])
              go_wp2
              exact hok.out (none) _ rfl rfl rfl HOb.out
            | some k =>
              have gk : decide ((0 : Int) ≤ (k : Int)) = true := decide_eq_true (by omega)
              rw [show optV (some k) = .int .i64 (k : Int) from rfl]
              have HOb : Hid (O = .bad 400) := Lib.hid (by rw [HOH.out]; rw [if_pos (.inr (.inr ⟨hce, .inr (by simp)⟩))])
              go_wp2
              exact hbad.out wr 400 _ HR2.out HBB.out rfl rfl rfl HOb.out
          · have ge : ((hc : Int) == 1) = false := by rw [beq_eq_false_iff_ne]; omega
            cases ln with
            | none =>
              rw [show optV none = .int .i64 (-1) from rfl]
              have HOb : Hid (O = .ok ⟨m, pa, qa, v, hfs, [], hcl⟩ (some 0)) := Lib.hid (by rw [HOH.out]; rw [if_neg (by rintro (⟨h, h1⟩ | h | ⟨h, _⟩) <;> first | exact absurd h hc1 | exact absurd h hce | exact absurd hh1 h1 | omega), if_neg hce]; rfl)
              go_wp2
              exact hok.out (some 0) _ rfl rfl rfl HOb.out
            | some k =>
              rw [show optV (some k) = .int .i64 (k : Int) from rfl]
              by_cases hk : 4096 < k
              · have gk : decide ((4096 : Int) < (k : Int)) = true := decide_eq_true (by omega)
                have HOb : Hid (O = .bad 413) := Lib.hid (by rw [HOH.out]; rw [if_neg (by rintro (⟨h, h1⟩ | h | ⟨h, _⟩) <;> first | exact absurd h hc1 | exact absurd h hce | exact absurd hh1 h1 | omega), if_neg hce, if_pos (by exact hk)])
                go_wp2
                exact hbad.out wr 413 _ HR2.out HBB.out rfl rfl rfl HOb.out
              · have gk : decide ((4096 : Int) < (k : Int)) = false := decide_eq_false (by omega)
                have gk2 : decide ((k : Int) < 0) = false := decide_eq_false (by omega)
                have HOb : Hid (O = .ok ⟨m, pa, qa, v, hfs, [], hcl⟩ (some k)) := Lib.hid (by rw [HOH.out]; rw [if_neg (by rintro (⟨h, h1⟩ | h | ⟨h, _⟩) <;> first | exact absurd h hc1 | exact absurd h hce | exact absurd hh1 h1 | omega), if_neg hce, if_neg (by exact hk)]; rfl)
                go_wp2
                exact hok.out (some k) _ rfl rfl rfl HOb.out
        · have gh : ((hh : Int) != 1) = true := by rw [bne_iff_ne]; omega
          have HOb : Hid (O = .bad 400) := Lib.hid (by rw [HOH.out]; rw [if_pos (.inl ⟨HV11.out, hh1⟩)])
          go_wp2
          exact hbad.out wr 400 _ HR2.out HBB.out rfl rfl rfl HOb.out
      · have hv10 : v = 10 := by omega
        have g11 : ((v : Int) == 11) = false := by rw [beq_eq_false_iff_ne]; omega
        have g10 : ((v : Int) == 10) = true := by rw [beq_iff_eq]; omega
        have HV10 := Lib.hid hv10
        have HV11n := Lib.hid hv11
        clear hv10 hv11 hvv
        by_cases hc1 : 1 < hc
        · have gc : decide ((1 : Int) < (hc : Int)) = true := decide_eq_true (by omega)
          have HOb : Hid (O = .bad 400) := Lib.hid (by rw [HOH.out]; rw [if_pos (.inr (.inl hc1))])
          go_wp2
          exact hbad.out wr 400 _ HR2.out HBB.out rfl rfl rfl HOb.out
        have gc : decide ((1 : Int) < (hc : Int)) = false := decide_eq_false (by omega)
        by_cases hce : hc = 1
        · have ge : ((hc : Int) == 1) = true := by rw [beq_iff_eq]; omega
          have HOb : Hid (O = .bad 400) := Lib.hid (by rw [HOH.out]; rw [if_pos (.inr (.inr ⟨hce, .inl HV10.out⟩))])
          go_wp2
          exact hbad.out wr 400 _ HR2.out HBB.out rfl rfl rfl HOb.out
        · have ge : ((hc : Int) == 1) = false := by rw [beq_eq_false_iff_ne]; omega
          cases ln with
          | none =>
            rw [show optV none = .int .i64 (-1) from rfl]
            have HOb : Hid (O = .ok ⟨m, pa, qa, v, hfs, [], hcl⟩ (some 0)) := Lib.hid (by rw [HOH.out]; rw [if_neg (by rintro (⟨h, h1⟩ | h | ⟨h, _⟩) <;> first | exact absurd h hc1 | exact absurd h hce | exact absurd h HV11n.out | omega), if_neg hce]; rfl)
            go_wp2
            exact hok.out (some 0) _ rfl rfl rfl HOb.out
          | some k =>
            rw [show optV (some k) = .int .i64 (k : Int) from rfl]
            by_cases hk : 4096 < k
            · have gk : decide ((4096 : Int) < (k : Int)) = true := decide_eq_true (by omega)
              have HOb : Hid (O = .bad 413) := Lib.hid (by rw [HOH.out]; rw [if_neg (by rintro (⟨h, h1⟩ | h | ⟨h, _⟩) <;> first | exact absurd h hc1 | exact absurd h hce | exact absurd h HV11n.out | omega), if_neg hce, if_pos (by exact hk)])
              go_wp2
              exact hbad.out wr 413 _ HR2.out HBB.out rfl rfl rfl HOb.out
            · have gk : decide ((4096 : Int) < (k : Int)) = false := decide_eq_false (by omega)
              have gk2 : decide ((k : Int) < 0) = false := decide_eq_false (by omega)
              have HOb : Hid (O = .ok ⟨m, pa, qa, v, hfs, [], hcl⟩ (some k)) := Lib.hid (by rw [HOH.out]; rw [if_neg (by rintro (⟨h, h1⟩ | h | ⟨h, _⟩) <;> first | exact absurd h hc1 | exact absurd h hce | exact absurd h HV11n.out | omega), if_neg hce, if_neg (by exact hk)]; rfl)
              go_wp2
              exact hok.out (some k) _ rfl rfl rfl HOb.out
end Go.Proofs.YtplajlccnnbifaaGreatDoor
