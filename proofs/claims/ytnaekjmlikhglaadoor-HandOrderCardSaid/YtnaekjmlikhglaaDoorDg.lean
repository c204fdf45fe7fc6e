/- HandChecks (stage 17) over any package. (mkdg.py writes it.) -/
import Derived.Test.YtnaekjmlikhglaaDoorDf
import Derived.Test.YtnaekjmlikhglaaDoorDs
namespace Go.Proofs.YtnaekjmlikhglaaDoor
open Go.RowKit
attribute [local go_sem] store_one B_match B_store S_match S_store

/-- What Answer hands back, as a slice. -/
theorem answer_form {w0 : World} (C : HandI w0) (m p q : DTx) (v : Int) (V : Value) (body : DTx) (cl : Bool) (fs : DFds) (b o : Nat) (w : World) (hb : Below w0.heap.size w0 w) (hV : FA w V fs b o) (hs : Small17 fs) :
    Calls Tryd.prog 13 #[rqV17 m p q v V body cl] w fun e w' => ∃ ad n c, e = .returned (.tuple #[.agg #[.int .i64 ((checkF m v fs).2 : Int), .slice ad n c, S (replyF (checkF m v fs)).2], .bool (decide ((checkF m v fs).2 = 101))]) ∧
      w'.ownsRow w.heap.size 37 2 (.slice ad n c) (replyF (checkF m v fs)).1.length (fcells (replyF (checkF m v fs)).1) ∧ Below w.heap.size w w' := by
  refine (C.answer m p q v V body cl fs b o w hb hV hs).mono ?_
  rintro e w' ⟨V', he, hO, hB⟩
  obtain ⟨g', hg', -⟩ := flds_at hO
  obtain ⟨ad, cp, rfl⟩ := hg'.form
  exact ⟨ad, _, cp, he, hO, hB⟩
theorem ranswer_form (m p q : DTx) (v : Int) (V : Value) (body : DTx) (cl : Bool) (fs : DFds) (b o : Nat) (w : World) (hV : FA w V fs b o) (hs : Small17 fs) :
    Calls Tryd.prog 14 #[rqV17 m p q v V body cl] w fun e w' => ∃ ad n c, e = .returned (.tuple #[.agg #[.int .i64 ((checkF m v fs).2 : Int), .slice ad n c, S (replyF (checkF m v fs)).2], .bool (decide ((checkF m v fs).2 = 101))]) ∧
      w'.ownsRow w.heap.size 37 2 (.slice ad n c) (replyF (checkF m v fs)).1.length (fcells (replyF (checkF m v fs)).1) ∧ Below w.heap.size w w' := by
  refine (ranswer_any m p q v V body cl fs b o w hV hs).mono ?_
  rintro e w' ⟨V', he, hO, hB⟩
  obtain ⟨g', hg', -⟩ := flds_at hO
  obtain ⟨ad, cp, rfl⟩ := hg'.form
  exact ⟨ad, _, cp, he, hO, hB⟩
theorem reply_few (x : DTx × Nat) : (replyF x).1.length ≤ 3 := by
  unfold replyF; split
  · show (3 : Nat) ≤ 3; decide
  · split <;> decide
set_option maxRecDepth 100000 in
set_option maxHeartbeats 2000000 in
theorem checks17_any {w : World} (C : HandI w) (m p q : DTx) (v : Int) (V : Value) (body : DTx) (cl : Bool) (fs : DFds) (b o : Nat) (hV : FA w V fs b o) :
    Calls Tryd.prog 3 #[rqV17 m p q v V body cl] w fun e w' => e = .returned (.bool true) ∧ Below w.heap.size w w' := by
  have HW := Lib.hid fun (W : World) (hb : Below w.heap.size w W) => wakes17_any (C.up hb)
  obtain ⟨W1, hW1⟩ : ∃ W, W = w.alloc (.cells (rqC17 m p q v V body cl) 24) := ⟨_, rfl⟩
  have hb1 : Below w.heap.size w W1 := by rw [hW1]; exact (Below.refl _ _).alloc (Nat.le_refl _) _
  have H1 : Hid (StD w (rqC17 m p q v V body cl) V fs b o W1) := Lib.hid ⟨by rw [hW1]; exact row_new _ _ _, hV.below hb1, hb1⟩
  have hG := great_any m p q v V body cl fs b o W1 (hV.below hb1)
  obtain ⟨x, hx⟩ : ∃ x, x = checkF m v fs := ⟨_, rfl⟩
  obtain ⟨rf, hrf⟩ : ∃ y, y = (replyF x).1 := ⟨_, rfl⟩
  obtain ⟨rb, hrb⟩ : ∃ y, y = (replyF x).2 := ⟨_, rfl⟩
  obtain ⟨x1, hx1⟩ : ∃ y, y = x.1 := ⟨_, rfl⟩
  obtain ⟨x2, hx2⟩ : ∃ y, y = x.2 := ⟨_, rfl⟩
  obtain ⟨ok, hok⟩ : ∃ y, y = decide (x2 = 101) := ⟨_, rfl⟩
  have hfew : rf.length ≤ 3 := by rw [hrf]; exact reply_few x
  have HST : Hid (∀ W, StD w (rqC17 m p q v V body cl) V fs b o W → Below w.heap.size w W ∧ FA W V fs b o) := Lib.hid fun W h => ⟨h.below, h.fa⟩
  have H2 : Hid (smallB fs = true → ∀ W, StD w (rqC17 m p q v V body cl) V fs b o W → Calls Tryd.prog 11 #[rqV17 m p q v V body cl] W fun e w' => e = .returned (.tuple #[S x1, .int .i64 (x2 : Int)]) ∧ Below W.heap.size W w') := Lib.hid fun h W hW => by
    rw [hx1, hx2, hx]; exact C.check m p q v V body cl fs b o W hW.below hW.fa ⟨by have := (small_of h).1; omega, (small_of h).2⟩
  have H3 : Hid (smallB fs = true → ∀ W, StD w (rqC17 m p q v V body cl) V fs b o W → Calls Tryd.prog 12 #[rqV17 m p q v V body cl] W fun e w' => e = .returned (.tuple #[S x1, .int .i64 (x2 : Int)]) ∧ Below W.heap.size W w') := Lib.hid fun h W hW => by
    rw [hx1, hx2, hx]; exact rcheck_any m p q v V body cl fs b o W hW.fa ⟨by have := (small_of h).1; omega, (small_of h).2⟩
  have H4 : Hid (smallB fs = true → ∀ W, StD w (rqC17 m p q v V body cl) V fs b o W → Calls Tryd.prog 13 #[rqV17 m p q v V body cl] W fun e w' => ∃ ad n c, e = .returned (.tuple #[.agg #[.int .i64 (x2 : Int), .slice ad n c, S rb], .bool ok]) ∧ w'.ownsRow W.heap.size 37 2 (.slice ad n c) rf.length (fcells rf) ∧ Below W.heap.size W w') := Lib.hid fun h W hW => by
    rw [hok, hrf, hrb, hx2, hx]; exact answer_form C m p q v V body cl fs b o W hW.below hW.fa ⟨by have := (small_of h).1; omega, (small_of h).2⟩
  have H5 : Hid (smallB fs = true → ∀ W, StD w (rqC17 m p q v V body cl) V fs b o W → Calls Tryd.prog 14 #[rqV17 m p q v V body cl] W fun e w' => ∃ ad n c, e = .returned (.tuple #[.agg #[.int .i64 (x2 : Int), .slice ad n c, S rb], .bool ok]) ∧ w'.ownsRow W.heap.size 37 2 (.slice ad n c) rf.length (fcells rf) ∧ Below W.heap.size W w') := Lib.hid fun h W hW => by
    rw [hok, hrf, hrb, hx2, hx]; exact ranswer_form m p q v V body cl fs b o W hW.fa ⟨by have := (small_of h).1; omega, (small_of h).2⟩
  have HSm : Hid (∀ (Va Vb : Value) (ga oa gb ob : Nat) (W : World), FA W Va rf ga oa → FA W Vb rf gb ob → Calls Tryd.prog 15 #[.agg #[.int .i64 (x2 : Int), Va, S rb], .agg #[.int .i64 (x2 : Int), Vb, S rb]] W fun e w' => e = .returned (.bool true) ∧ Below W.heap.size W w') := Lib.hid fun Va Vb ga oa gb ob W h1 h2 => same17_true (x2 : Int) rb rf Va Vb ga oa gb ob (by omega) W h1 h2
  have hc : Hid (∀ W, StD w (rqC17 m p q v V body cl) V fs b o W → W.cell? ⟨w.heap.size, 0, none⟩ = some (S m) ∧ W.cell? ⟨w.heap.size, 1, none⟩ = some (S p) ∧ W.cell? ⟨w.heap.size, 2, none⟩ = some (S q) ∧ W.cell? ⟨w.heap.size, 3, none⟩ = some (.int .i64 v) ∧ W.cell? ⟨w.heap.size, 4, none⟩ = some V ∧ W.cell? ⟨w.heap.size, 5, none⟩ = some (S body) ∧ W.cell? ⟨w.heap.size, 6, none⟩ = some (.bool cl)) := Lib.hid fun W h =>
    ⟨cell_of_row W _ 0 _ _ (0, 0) h.row, cell_of_row W _ 1 _ _ (0, 0) h.row, cell_of_row W _ 2 _ _ (0, 0) h.row, cell_of_row W _ 3 _ _ (0, 0) h.row, cell_of_row W _ 4 _ _ (0, 0) h.row, cell_of_row W _ 5 _ _ (0, 0) h.row, cell_of_row W _ 6 _ _ (0, 0) h.row⟩
  have e1 : binOp .eql 9 (S x1) (S x1) = pure (.bool true) := by rw [eql_S]; simp
  have n1 : ∀ x y, eqGuard .eql 9 x y (S x1) (S x1) = pure () := fun _ _ => rfl
  obtain ⟨fc, hfc⟩ : ∃ c, c = rqC17 m p q v V body cl := ⟨_, rfl⟩
  rw [← hfc] at H1 HST H2 H3 H4 H5 hc
  clear C hb1 hx hrf hrb hx1 hx2 hok hfew hV hfc
  unfold rqV17 at hG H2 H3 H4 H5 ⊢
  unfold rqC17 at hW1 hG H2 H3 H4 H5 ⊢
  rw [hW1] at hG
  have HG := Lib.hid hG
  obtain ⟨sm, hsm⟩ : ∃ s, s = smallB fs := ⟨_, rfl⟩
  rw [← hsm] at HG H2 H3 H4 H5
  clear hG hsm
  go_enter Tryd.func3, Tryd.ntmps3
  go_wp2_with fail
  refine HG.out.mono ?_
  rintro e W2 ⟨rfl, hB⟩
  rw [← hW1] at hB
  have S2 := Lib.hid (H1.out.next hB)
  clear hB HG H1 hW1
  cases sm with
  | false =>
    go_wp2_with fail
    refine (HW.out W2 S2.out.below).mono ?_
    rintro e W3 ⟨rfl, hB⟩
    have B3 := Lib.hid (S2.out.below.trans (hB.mono S2.out.below.size))
    clear hB
    go_wp2
    go_ret
    exact ⟨rfl, B3.out⟩
  | true =>
    obtain ⟨c0, c1, c2, c3, c4, c5, c6⟩ := hc.out W2 S2.out
    go_wp2_with fail
    refine (H2.out trivial W2 S2.out).mono ?_
    rintro e W3 ⟨rfl, hB⟩
    have S3 := Lib.hid (S2.out.next hB)
    clear hB c0 c1 c2 c3 c4 c5 c6 S2 H2
    obtain ⟨c0, c1, c2, c3, c4, c5, c6⟩ := hc.out W3 S3.out
    go_wp2_with fail
    refine (H3.out trivial W3 S3.out).mono ?_
    rintro e W4 ⟨rfl, hB⟩
    have S4 := Lib.hid (S3.out.next hB)
    clear hB c0 c1 c2 c3 c4 c5 c6 S3 H3
    obtain ⟨c0, c1, c2, c3, c4, c5, c6⟩ := hc.out W4 S4.out
    go_wp2_with fail
    refine (H4.out trivial W4 S4.out).mono ?_
    rintro e W5 ⟨ad, n, cp, rfl, hO, hB⟩
    have S5 := Lib.hid (S4.out.next hB)
    obtain ⟨W6, hW6⟩ : ∃ W, W = W5.alloc (.cells #[.int .i64 (x2 : Int), .slice ad n cp, S rb] 30) := ⟨_, rfl⟩
    have hb6 : Below W5.heap.size W5 W6 := by rw [hW6]; exact (Below.refl _ _).alloc (Nat.le_refl _) _
    have S6 := Lib.hid (S5.out.next hb6)
    have HR6 : Hid (Row W6 W5.heap.size #[.int .i64 (x2 : Int), .slice ad n cp, S rb] 30 ∧ W6.ownsRow W4.heap.size 37 2 (.slice ad n cp) rf.length (fcells rf)) := Lib.hid ⟨by rw [hW6]; exact row_new _ _ _, own_below hO hb6⟩
    obtain ⟨d0, d1, d2, d3, d4, d5, d6⟩ := hc.out W6 S6.out
    rw [hW6] at d0 d1 d2 d3 d4 d5 d6
    clear hB hO hb6 c0 c1 c2 c3 c4 c5 c6 S5 H4
    go_wp2_with fail
    rw [← hW6]
    clear hW6 d0 d1 d2 d3 d4 d5 d6
    refine (H5.out trivial W6 S6.out).mono ?_
    rintro e W7 ⟨ad2, n2, cp2, rfl, hO, hB⟩
    have S7 := Lib.hid (S6.out.next hB)
    have hr7 := HR6.out.1.below hB HR6.out.1.lt
    have hO7 := own_below HR6.out.2 hB
    obtain ⟨W8, hW8⟩ : ∃ W, W = W7.alloc (.cells #[.int .i64 (x2 : Int), .slice ad2 n2 cp2, S rb] 30) := ⟨_, rfl⟩
    have hb8 : Below W7.heap.size W7 W8 := by rw [hW8]; exact (Below.refl _ _).alloc (Nat.le_refl _) _
    have S8 := Lib.hid (S7.out.next hb8)
    have hr8 := hr7.below hb8 hr7.lt
    have hq8 : Row W8 W7.heap.size #[.int .i64 (x2 : Int), .slice ad2 n2 cp2, S rb] 30 := by rw [hW8]; exact row_new _ _ _
    obtain ⟨ga, hga, -⟩ := flds_at (own_below hO7 hb8)
    obtain ⟨gb, hgb, -⟩ := flds_at (own_below hO hb8)
    have HS8 := Lib.hid (HSm.out _ _ ga 0 gb 0 W8 hga.fa hgb.fa)
    have z0 : W8.cell? ⟨W5.heap.size, 0, none⟩ = some (.int .i64 (x2 : Int)) := cell_of_row W8 _ 0 _ _ (0, 0) hr8
    have z1 : W8.cell? ⟨W5.heap.size, 1, none⟩ = some (.slice ad n cp) := cell_of_row W8 _ 1 _ _ (0, 0) hr8
    have z2 : W8.cell? ⟨W5.heap.size, 2, none⟩ = some (S rb) := cell_of_row W8 _ 2 _ _ (0, 0) hr8
    have y0 : W8.cell? ⟨W7.heap.size, 0, none⟩ = some (.int .i64 (x2 : Int)) := cell_of_row W8 _ 0 _ _ (0, 0) hq8
    have y1 : W8.cell? ⟨W7.heap.size, 1, none⟩ = some (.slice ad2 n2 cp2) := cell_of_row W8 _ 1 _ _ (0, 0) hq8
    have y2 : W8.cell? ⟨W7.heap.size, 2, none⟩ = some (S rb) := cell_of_row W8 _ 2 _ _ (0, 0) hq8
    clear hB hO hr7 hO7 hb8 hr8 hq8 hga hgb S7 S6 HR6 H5 HSm
    rw [hW8] at z0 z1 z2 y0 y1 y2
    have hokk : ∀ o : Bool, o = o := fun o => rfl
    clear hokk
    cases ok with
    | false =>
      go_wp2_with fail
      rw [← hW8]
      refine HS8.out.mono ?_
      rintro e W9 ⟨rfl, hB⟩
      have B9 := Lib.hid (S8.out.below.trans (hB.mono S8.out.below.size))
      clear hB z0 z1 z2 y0 y1 y2 HS8
      go_wp2_with fail
      refine (HW.out W9 B9.out).mono ?_
      rintro e W10 ⟨rfl, hB⟩
      have B10 := Lib.hid (B9.out.trans (hB.mono B9.out.size))
      clear hB
      go_wp2
      go_ret
      exact ⟨rfl, B10.out⟩
    | true =>
      go_wp2_with fail
      rw [← hW8]
      refine HS8.out.mono ?_
      rintro e W9 ⟨rfl, hB⟩
      have B9 := Lib.hid (S8.out.below.trans (hB.mono S8.out.below.size))
      clear hB z0 z1 z2 y0 y1 y2 HS8
      go_wp2_with fail
      refine (HW.out W9 B9.out).mono ?_
      rintro e W10 ⟨rfl, hB⟩
      have B10 := Lib.hid (B9.out.trans (hB.mono B9.out.size))
      clear hB
      go_wp2
      go_ret
      exact ⟨rfl, B10.out⟩
end Go.Proofs.YtnaekjmlikhglaaDoor
